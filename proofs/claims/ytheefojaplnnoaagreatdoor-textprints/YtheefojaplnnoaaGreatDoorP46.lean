/-
  Texts Ue Laid EnvM PrtLift PrtFact.
-/
import Derived.ChangeArms
import Derived.FnData
import Derived.HandedShaped
import Derived.JoinedOf
import Derived.KernelRfl
import Derived.Lib.LaidTab
import Derived.OpenShut
import Derived.RowKit
import Derived.Stop.Joined
import Derived.Stop.LaidErr
import Derived.Test.YtheefojaplnnoaaGreatDoorP00
import Derived.Test.YtheefojaplnnoaaGreatDoorCards
import Derived.Test.YtheefojaplnnoaaGreatDoorP10
import Derived.Test.YtheefojaplnnoaaGreatDoorP38
import Derived.Test.YtheefojaplnnoaaGreatDoorP43
import Derived.Test.YtheefojaplnnoaaGreatDoorP45
set_option linter.unusedVariables false
set_option maxRecDepth 100000
set_option maxHeartbeats 16000000
namespace Go.Proofs.YtheefojaplnnoaaGreatDoor
open Go.RowKit
theorem iG.top {B : Nat} {w W : World} (h : iG B w) (hb : Below B w W) : iG W.heap.size W :=
 ⟨(h.later hb).tens.up (Nat.le_trans h.bw hb.size),(h.later hb).errs.up (Nat.le_trans h.bw hb.size),(h.later hb).kinds,(h.later hb).mx,Nat.lt_of_lt_of_le h.b3 (Nat.le_trans h.bw hb.size),Nat.le_refl _⟩
theorem I4 {m n : MM} (h : pl n = pl m) (hm : DU m) : DU n:=by
 intro j x hj i y hi;unfold pl at h;obtain ⟨-,-,-,-,-,h6,-,-⟩:=PM.mk.inj h;have hl : n.fns.length = m.fns.length:=Ab
 obtain ⟨x',hx'⟩ : ∃ x',m.fns[j]? = some x':=⟨_,aN (by have:=aA hj; omega)⟩
 have hf:=pY h6 hj hx';unfold plF at hf;obtain ⟨-,hf⟩:=Prod.mk.inj hf;obtain ⟨-,hf⟩:=Prod.mk.inj hf
 have hl2 : x.2.2.2.length = x'.2.2.2.length:=by have:=congrArg List.length hf; simpa using this
 obtain ⟨y',hy'⟩ : ∃ y',x'.2.2.2[i]? = some y':=⟨_,aN (by have:=aA hi; omega)⟩
 have he:=pY hf hi hy';unfold plI at he;obtain ⟨-,he⟩:=Prod.mk.inj he;obtain ⟨he,-⟩:=Prod.mk.inj he
 have:=hm j x' hx' i y' hy'
 rw [he];exact this
theorem wY (TB : Nat) (m : MM) (w : World) (hE : iG TB w) (hr : Raw w m) :
  Calls Tryz.prog 3 #[.agg (mV m)] w fun e w' => e = .returned (.bool true) ∧ Below w.heap.size w w':=by
 have hTB:=hE.bw
 have HE:=hid (fun (W : World) (hb : Below w.heap.size w W) => hE.top (hb.mono hTB))
 have HT:=hid (fun (W : World) (hb : Below w.heap.size w W) => (⟨(hE.later (hb.mono hTB)).tens,Nat.le_trans hTB hb.size⟩ : eW TB W ∧ TB ≤ W.heap.size))
 have HR:=hid (fun (W : World) (hb : Below w.heap.size w W) => hr.later hb)
 have HM:=hid (fun (hs : Small m) => hr.ok hs)
 have HSR:=hid (fun hs => JQ hr hs)
 have HIR:=hid (show DU m from fun j x hj i y hi => Kl hr j x hj i y hi)
 have B0:=ak w (.cells (mV m) 29);have bx : (w.alloc (.cells (mV m) 29)).heap[w.heap.size]? = some (.cells (mV m) 29):=heap_alloc_new w (.cells (mV m) 29);have HW : w.alloc (bg m.ta m.tn m.tc m.ha m.hn m.hc m.ga m.gn m.gc m.fi m.mo m.fa m.fn m.fc m.da m.dn m.dc m.ea m.en m.ec) = w.alloc (.cells (mV m) 29):=rfl;clear hE hr;generalize w.alloc (.cells (mV m) 29) = W0 at *;have HB0:=hid B0;have HBX:=hid bx;clear B0 bx
 show Calls Tryz.prog 3 #[.agg #[.slice m.ta m.tn m.tc,.slice m.ha m.hn m.hc,.slice m.ga m.gn m.gc,.int .i64 m.fi,.int .i64 m.mo,.slice m.fa m.fn m.fc,.slice m.da m.dn m.dc,.slice m.ea m.en m.ec]] w _
 go_enter Tryz.func3,Tryz.ntmps3
 go_wp2_with fail;refine (NE W0 (HE.out W0 HB0.out)).mono ?_;rintro e w1 ⟨rfl,hb⟩;have HB1:=hid (HB0.out.trans (hb.mono HB0.out.size))
 replace HBX:=hid (ar hb HBX.out)
 clear hb HB0 HW;obtain ⟨z1,z2,z3,z4,z5⟩:=HR.out w1 HB1.out;have H9:=Md m w1 z1 z2 z3 z4 z5;unfold mV at H9;have HH9:=hid H9;clear H9 z1 z2 z3 z4 z5;have m0 : w1.cell? ⟨w.heap.size,0,none⟩ = some (.slice m.ta m.tn m.tc):=ag HBX.out;have m1 : w1.cell? ⟨w.heap.size,1,none⟩ = some (.slice m.ha m.hn m.hc):=ag HBX.out;have m2 : w1.cell? ⟨w.heap.size,2,none⟩ = some (.slice m.ga m.gn m.gc):=ag HBX.out;have m3 : w1.cell? ⟨w.heap.size,3,none⟩ = some (.int .i64 m.fi):=ag HBX.out;have m4 : w1.cell? ⟨w.heap.size,4,none⟩ = some (.int .i64 m.mo):=ag HBX.out;have m5 : w1.cell? ⟨w.heap.size,5,none⟩ = some (.slice m.fa m.fn m.fc):=ag HBX.out;have m6 : w1.cell? ⟨w.heap.size,6,none⟩ = some (.slice m.da m.dn m.dc):=ag HBX.out;have m7 : w1.cell? ⟨w.heap.size,7,none⟩ = some (.slice m.ea m.en m.ec):=ag HBX.out;go_wp2_with fail;clear m0 m1 m2 m3 m4 m5 m6 m7;refine HH9.out.mono ?_;rintro e w2 ⟨s,rfl,hb,hs⟩;have HB2:=hid (HB1.out.trans (hb.mono HB1.out.size))
 replace HBX:=hid (ar hb HBX.out)
 clear hb HH9 HB1
 by_cases hs4 : s ≤ 131072
 rotate_left
 ·have h4' : (131072 : Int) < (s : Int):=ae;clear hs hs4;go_wp2_with fail;go_ret;exact ⟨rfl,HB2.out⟩
 have h4' : ¬ (131072 : Int) < (s : Int):=ae;obtain ⟨hsr,hszs⟩:=HSR.out (hs hs4)
 have hsm : Small m:=by have:=hs hs4; unfold Small; omega
 clear hs hs4
 have HMO:=hid (fun (W : World) (hb : Below w.heap.size w W) => fun R g h1 h2 => (HM.out hsm R g (Nat.le_trans hb.size h1) (Nat.le_trans hb.size h2)).later hb)
 have HMS:=hid (fun (W : World) (hb : Below w.heap.size w W) => hsr.later hb)
 have HZZ:=hid hszs;have H21:=hid (Jn TB m w2 (HMS.out w2 HB2.out) (HT.out w2 HB2.out).1 (HT.out w2 HB2.out).2);unfold mV at H21;clear hsr hszs;have m0 : w2.cell? ⟨w.heap.size,0,none⟩ = some (.slice m.ta m.tn m.tc):=ag HBX.out;have m1 : w2.cell? ⟨w.heap.size,1,none⟩ = some (.slice m.ha m.hn m.hc):=ag HBX.out;have m2 : w2.cell? ⟨w.heap.size,2,none⟩ = some (.slice m.ga m.gn m.gc):=ag HBX.out;have m3 : w2.cell? ⟨w.heap.size,3,none⟩ = some (.int .i64 m.fi):=ag HBX.out;have m4 : w2.cell? ⟨w.heap.size,4,none⟩ = some (.int .i64 m.mo):=ag HBX.out;have m5 : w2.cell? ⟨w.heap.size,5,none⟩ = some (.slice m.fa m.fn m.fc):=ag HBX.out;have m6 : w2.cell? ⟨w.heap.size,6,none⟩ = some (.slice m.da m.dn m.dc):=ag HBX.out;have m7 : w2.cell? ⟨w.heap.size,7,none⟩ = some (.slice m.ea m.en m.ec):=ag HBX.out;go_wp2_with fail;clear m0 m1 m2 m3 m4 m5 m6 m7;refine H21.out.mono ?_;rintro e w3 ⟨BT,BH,BG,BF,BD,BE,fs,ds,rfl,hWd,hb⟩;have HWD:=hid hWd;have HB3:=hid (HB2.out.trans (hb.mono HB2.out.size))
 replace HBX:=hid (ar hb HBX.out)
 clear hb hWd H21 HB2;unfold wMM;dsimp only;go_wp2_with fail;have BK:=ak w3 (bg (some ⟨BT,0,none⟩) m.tn (m.tn + 64) (some ⟨BH,0,none⟩) m.hn (m.hn + 64) (some ⟨BG,0,none⟩) m.gn (m.gn + 64) m.fi m.mo (some ⟨BF,0,none⟩) m.fn (m.fn + 64) (some ⟨BD,0,none⟩) m.dn (m.dn + 64) (some ⟨BE,0,none⟩) m.en (m.en + 64));have bk:=heap_alloc_new w3 (bg (some ⟨BT,0,none⟩) m.tn (m.tn + 64) (some ⟨BH,0,none⟩) m.hn (m.hn + 64) (some ⟨BG,0,none⟩) m.gn (m.gn + 64) m.fi m.mo (some ⟨BF,0,none⟩) m.fn (m.fn + 64) (some ⟨BD,0,none⟩) m.dn (m.dn + 64) (some ⟨BE,0,none⟩) m.en (m.en + 64));have HB4:=hid (HB3.out.trans (BK.mono HB3.out.size))
 replace HBX:=hid (ar BK HBX.out)
 replace HWD:=hid (HWD.out.later BK)
 have HBK:=hid bk;clear bk BK HB3;generalize w3.alloc (bg (some ⟨BT,0,none⟩) m.tn (m.tn + 64) (some ⟨BH,0,none⟩) m.hn (m.hn + 64) (some ⟨BG,0,none⟩) m.gn (m.gn + 64) m.fi m.mo (some ⟨BF,0,none⟩) m.fn (m.fn + 64) (some ⟨BD,0,none⟩) m.dn (m.dn + 64) (some ⟨BE,0,none⟩) m.en (m.en + 64)) = W4 at *;generalize w3.heap.size = K4 at *;have hlm:=(HMS.out W4 HB4.out).len;have HPW:=hid (Js HWD.out hlm);have HLW:=hid (ER HWD.out hlm);have HLM:=hid hlm;clear hlm;have H11:=hid (Bo TB (wMM m BT BH BG BF BD BE fs ds) W4 (HT.out W4 HB4.out).2 (HT.out W4 HB4.out).1 (HE.out W4 HB4.out).kinds ((Je HWD.out (HMS.out W4 HB4.out)).ok (HM.out hsm _ _ (Nat.le_refl _) (Nat.le_refl _))) (I4 HPW.out HIR.out));rw [MI HLW.out HLM.out HPW.out,xH HLW.out HLM.out HPW.out] at H11;unfold wMM mV at H11;dsimp only at H11
 have H12:=hid (fun (W : World) (hb : Below w.heap.size w W) => EH m W (HMO.out W hb) HZZ.out HIR.out)
 unfold mV at H12;generalize mQ m = PV at *;generalize cL m = CV at *;refine H11.out.mono ?_;rintro e w5 ⟨rfl,hb⟩;have HB5:=hid (HB4.out.trans (hb.mono HB4.out.size))
 replace HBX:=hid (ar hb HBX.out)
 replace HBK:=hid (ar hb HBK.out)
 replace HWD:=hid (HWD.out.later hb)
 clear hb HB4 H11;have m0 : w5.cell? ⟨w.heap.size,0,none⟩ = some (.slice m.ta m.tn m.tc):=ag HBX.out;have m1 : w5.cell? ⟨w.heap.size,1,none⟩ = some (.slice m.ha m.hn m.hc):=ag HBX.out;have m2 : w5.cell? ⟨w.heap.size,2,none⟩ = some (.slice m.ga m.gn m.gc):=ag HBX.out;have m3 : w5.cell? ⟨w.heap.size,3,none⟩ = some (.int .i64 m.fi):=ag HBX.out;have m4 : w5.cell? ⟨w.heap.size,4,none⟩ = some (.int .i64 m.mo):=ag HBX.out;have m5 : w5.cell? ⟨w.heap.size,5,none⟩ = some (.slice m.fa m.fn m.fc):=ag HBX.out;have m6 : w5.cell? ⟨w.heap.size,6,none⟩ = some (.slice m.da m.dn m.dc):=ag HBX.out;have m7 : w5.cell? ⟨w.heap.size,7,none⟩ = some (.slice m.ea m.en m.ec):=ag HBX.out;go_wp2_with fail;clear m0 m1 m2 m3 m4 m5 m6 m7;refine (H12.out w5 HB5.out).mono ?_;rintro e w6 ⟨rfl,hb⟩;have HB6:=hid (HB5.out.trans (hb.mono HB5.out.size))
 replace HBX:=hid (ar hb HBX.out)
 replace HBK:=hid (ar hb HBK.out)
 replace HWD:=hid (HWD.out.later hb)
 clear hb HB5 H12;have H25:=hid (NS HWD.out (HMS.out w6 HB6.out));unfold wMM mV at H25;dsimp only at H25;have hPP : (PV.toList == PV.toList) = true:=aq;have hCC : (CV == CV) = true:=aq;have m0 : w6.cell? ⟨w.heap.size,0,none⟩ = some (.slice m.ta m.tn m.tc):=ag HBX.out;have m1 : w6.cell? ⟨w.heap.size,1,none⟩ = some (.slice m.ha m.hn m.hc):=ag HBX.out;have m2 : w6.cell? ⟨w.heap.size,2,none⟩ = some (.slice m.ga m.gn m.gc):=ag HBX.out;have m3 : w6.cell? ⟨w.heap.size,3,none⟩ = some (.int .i64 m.fi):=ag HBX.out;have m4 : w6.cell? ⟨w.heap.size,4,none⟩ = some (.int .i64 m.mo):=ag HBX.out;have m5 : w6.cell? ⟨w.heap.size,5,none⟩ = some (.slice m.fa m.fn m.fc):=ag HBX.out;have m6 : w6.cell? ⟨w.heap.size,6,none⟩ = some (.slice m.da m.dn m.dc):=ag HBX.out;have m7 : w6.cell? ⟨w.heap.size,7,none⟩ = some (.slice m.ea m.en m.ec):=ag HBX.out;have n0 : w6.cell? ⟨K4,0,none⟩ = some (.slice (some ⟨BT,0,none⟩) m.tn (m.tn + 64)):=ag HBK.out;have n1 : w6.cell? ⟨K4,1,none⟩ = some (.slice (some ⟨BH,0,none⟩) m.hn (m.hn + 64)):=ag HBK.out;have n2 : w6.cell? ⟨K4,2,none⟩ = some (.slice (some ⟨BG,0,none⟩) m.gn (m.gn + 64)):=ag HBK.out;have n3 : w6.cell? ⟨K4,3,none⟩ = some (.int .i64 m.fi):=ag HBK.out;have n4 : w6.cell? ⟨K4,4,none⟩ = some (.int .i64 m.mo):=ag HBK.out;have n5 : w6.cell? ⟨K4,5,none⟩ = some (.slice (some ⟨BF,0,none⟩) m.fn (m.fn + 64)):=ag HBK.out;have n6 : w6.cell? ⟨K4,6,none⟩ = some (.slice (some ⟨BD,0,none⟩) m.dn (m.dn + 64)):=ag HBK.out;have n7 : w6.cell? ⟨K4,7,none⟩ = some (.slice (some ⟨BE,0,none⟩) m.en (m.en + 64)):=ag HBK.out;go_wp2_with fail;refine H25.out.mono ?_;rintro e w7 ⟨rfl,hb⟩;have HB7:=hid (HB6.out.trans (hb.mono HB6.out.size))
 replace HBX:=hid (ar hb HBX.out)
 replace HBK:=hid (ar hb HBK.out)
 replace HWD:=hid (HWD.out.later hb)
 clear hb HB6 H25 m0 m1 m2 m3 m4 m5 m6 m7 n0 n1 n2 n3 n4 n5 n6 n7;have H26:=hid (Gk TB HWD.out (HMS.out w7 HB7.out) (HT.out w7 HB7.out).1 (HT.out w7 HB7.out).2);unfold wMM mV at H26;dsimp only at H26;have n0 : w7.cell? ⟨K4,0,none⟩ = some (.slice (some ⟨BT,0,none⟩) m.tn (m.tn + 64)):=ag HBK.out;have n1 : w7.cell? ⟨K4,1,none⟩ = some (.slice (some ⟨BH,0,none⟩) m.hn (m.hn + 64)):=ag HBK.out;have n2 : w7.cell? ⟨K4,2,none⟩ = some (.slice (some ⟨BG,0,none⟩) m.gn (m.gn + 64)):=ag HBK.out;have n3 : w7.cell? ⟨K4,3,none⟩ = some (.int .i64 m.fi):=ag HBK.out;have n4 : w7.cell? ⟨K4,4,none⟩ = some (.int .i64 m.mo):=ag HBK.out;have n5 : w7.cell? ⟨K4,5,none⟩ = some (.slice (some ⟨BF,0,none⟩) m.fn (m.fn + 64)):=ag HBK.out;have n6 : w7.cell? ⟨K4,6,none⟩ = some (.slice (some ⟨BD,0,none⟩) m.dn (m.dn + 64)):=ag HBK.out;have n7 : w7.cell? ⟨K4,7,none⟩ = some (.slice (some ⟨BE,0,none⟩) m.en (m.en + 64)):=ag HBK.out;go_wp2_with fail;refine H26.out.mono ?_;rintro e w8 ⟨rfl,hb⟩;have HB8:=hid (HB7.out.trans (hb.mono HB7.out.size));clear hb;go_wp2_with fail;go_ret;exact ⟨rfl,HB8.out⟩
theorem Tryz.cells287 : Tryz.prog.cellsOf 287 = 4:=aj
theorem Tryz.cells288 : Tryz.prog.cellsOf 288 = 28:=aj
theorem Tryz.cells5 : Tryz.prog.cellsOf 5 = 1:=aj
theorem Tryz.cells9 : Tryz.prog.cellsOf 9 = 1:=aj
theorem Tryz.kindsAt : Tryz.prog.globalNamed "flagon/ops.kinds" = some 0:=aj
theorem Tryz.kindsType : (Tryz.prog.globals[0]?).map (·.type) = some 288:=aj
theorem NQ {α : Type} : ∀ (l : List α),l.length = 4 → ∃ a b c d,l = [a,b,c,d]
 | [a,b,c,d],_ => ⟨a,b,c,d,rfl⟩
theorem PJ {α : Type} : ∀ (l : List α),l.length = 7 → ∃ a b c d e f g,l = [a,b,c,d,e,f,g]
 | [a,b,c,d,e,f,g],_ => ⟨a,b,c,d,e,f,g,rfl⟩
theorem fA {H : Type} {enc : TypeId × Value → H} {w : World} {base : Nat} {sp : Nat → Bool} {held : Bool} {fuel : Nat} {cs : List Value} {f l : Int} {a s : List UInt8} {p : List MemPlace}
  (h : DataW.trod enc Tryz.prog w base sp held fuel 287 cs = some (.agg [.lit (.int .u8 f),.lit (.int .u8 l),.lit (.string a),.lit (.string s)],p)) :
  cs = [.int .u8 f,.int .u8 l,.string ⟨a.toArray⟩,.string ⟨s.toArray⟩]:=by
 obtain ⟨xs,n,_,hx,hl,hxl,hel⟩:=DataW.trod_struct Tryz.underlying287 h;rw [Tryz.cells287] at hl;obtain ⟨c0,c1,c2,c3,rfl⟩:=NQ cs hl;obtain ⟨x0,x1,x2,x3,rfl⟩:=NQ xs hxl;have e:=congrArg Prod.fst hx
 simp only [List.map_cons,List.map_nil,DataW.agg.injEq,List.cons.injEq,and_true] at e
 obtain ⟨e0,e1,e2,e3⟩:=e;have h0 : DataW.trod enc Tryz.prog w base sp held n 5 (([c0,c1,c2,c3].drop 0).take (Tryz.prog.cellsOf 5)) = some x0:=hel 0 _ rfl;have h1 : DataW.trod enc Tryz.prog w base sp held n 5 (([c0,c1,c2,c3].drop 1).take (Tryz.prog.cellsOf 5)) = some x1:=hel 1 _ rfl;have h2 : DataW.trod enc Tryz.prog w base sp held n 9 (([c0,c1,c2,c3].drop 2).take (Tryz.prog.cellsOf 9)) = some x2:=hel 2 _ rfl;have h3 : DataW.trod enc Tryz.prog w base sp held n 9 (([c0,c1,c2,c3].drop 3).take (Tryz.prog.cellsOf 9)) = some x3:=hel 3 _ rfl;rw [Tryz.cells5] at h0 h1;rw [Tryz.cells9] at h2 h3;obtain ⟨n0,g0,k0,_⟩:=DataW.trod_int Tryz.underlying5 h0;obtain ⟨n1,g1,k1,_⟩:=DataW.trod_int Tryz.underlying5 h1;obtain ⟨s2,g2,k2,_⟩:=DataW.trod_string Tryz.underlying9 h2;obtain ⟨s3,g3,k3,_⟩:=DataW.trod_string Tryz.underlying9 h3;clear hel h hx h0 h1 h2 h3;rw [k0] at e0;rw [k1] at e1;rw [k2] at e2;rw [k3] at e3
 simp only [DataW.lit.injEq,Lit.int.injEq,true_and,Lit.string.injEq] at e0 e1 e2 e3
 simp only [List.drop_zero,List.drop_succ_cons,List.take_succ_cons,List.take_zero,List.cons.injEq,and_true] at g0 g1 g2 g3
 rw [g0,g1,g2,g3,e0,e1,e2,e3]
theorem Nu (l : List Value) (h : l.length = 28) : l = l.take 4 ++ ((l.drop 4).take 4 ++ ((l.drop 8).take 4 ++ ((l.drop 12).take 4 ++ ((l.drop 16).take 4 ++ ((l.drop 20).take 4 ++ (l.drop 24).take 4))))):=by
 have e : ∀ n,l.drop n = (l.drop n).take 4 ++ l.drop (n + 4):=fun n => by
  have:=(List.take_append_drop 4 (l.drop n)).symm
  rwa [List.drop_drop] at this
 have e6 : l.drop 24 = (l.drop 24).take 4:=by rw [List.take_of_length_le aG]
 have e5:=e 20; have e4:=e 16; have e3:=e 12; have e2:=e 8; have e1:=e 4; have e0:=e 0
 simp only [List.drop_zero,Nat.zero_add,Nat.reduceAdd] at e0 e1 e2 e3 e4 e5
 rw [← e6,← e5,← e4,← e3,← e2,← e1,← e0]
theorem qX {W : World} {rest : List (String × DataW Unit)} (h : laidMet Tryz.prog (("flagon/ops.kinds",Rows.laid_flagon_ops_kinds) :: rest) W) : aX W:=by
 obtain ⟨ps,⟨g',t',cs,fuel,p,q,hg',ht',hvar,hd,_,_⟩,_⟩:=h;obtain rfl:=Option.some.inj (Tryz.kindsAt.symm.trans hg');obtain rfl:=Option.some.inj (Tryz.kindsType.symm.trans ht');obtain ⟨xs,n,_,hx,hl,hxl,hel⟩:=DataW.trod_array Tryz.underlying288 hd;rw [Tryz.cells288] at hl;obtain ⟨x0,x1,x2,x3,x4,x5,x6,rfl⟩:=PJ xs hxl;have e:=congrArg Prod.fst hx
 simp only [Rows.laid_flagon_ops_kinds,List.map_cons,List.map_nil,DataW.agg.injEq,List.cons.injEq,and_true] at e
 obtain ⟨e0,e1,e2,e3,e4,e5,e6⟩:=e;have h0:=hel 0 av; have h1:=hel 1 av; have h2:=hel 2 av; have h3:=hel 3 av; have h4:=hel 4 av; have h5:=hel 5 av; have h6:=hel 6 av
 simp only [Tryz.cells287,Nat.reduceMul,List.drop_zero,List.getElem?_cons_zero,List.getElem?_cons_succ] at h0 h1 h2 h3 h4 h5 h6
 obtain ⟨d0,p0⟩:=x0; obtain ⟨d1,p1⟩:=x1; obtain ⟨d2,p2⟩:=x2; obtain ⟨d3,p3⟩:=x3; obtain ⟨d4,p4⟩:=x4; obtain ⟨d5,p5⟩:=x5; obtain ⟨d6,p6⟩:=x6
 simp only at e0 e1 e2 e3 e4 e5 e6
 subst e0 e1 e2 e3 e4 e5 e6
 have hcs : cs.toList = nE:=by
  rw [Nu _ hl,fA h0,fA h1,fA h2,fA h3,fA h4,fA h5,fA h6];rfl
 intro j v hj;rw [World.var?_cell Tryz.kindsAt hvar j,← Array.getElem?_toList,hcs];exact hj
open Go.ChangeShapes Go.WideShapes Go.ChangeAt Go.RowKit
theorem KV : ownKnob Tryz.prog.godebug = none:=aj
theorem laidOut : laidOutB Tryz.prog = true:=aj
abbrev jQ : List (String × DataW Unit):=Rows.textPrintsRow.laid
theorem pZ (W : World) : laidMetH Tryz.prog jQ W = laidMet Tryz.prog jQ W:=MakeChecks.laidMetH_plain _ _ _ aj
theorem met (os : Os) (args : Array Value) : laidMetH Tryz.prog jQ ((World.laidAll Tryz.prog os jQ).forCall (fun _ _ => 0) ⟨#[],args,[]⟩).memory:=by
 rw [pZ];exact laidMet_laidAll _ aj aj
theorem kinds_met {W : World} (h : laidMet Tryz.prog jQ W) : aX W :=
 qX (laidMet.tail (laidMet.tail (laidMet.tail (laidMet.tail (laidMet.tail (laidMet.tail h))))))
theorem GM {W : World} (h : laidMet Tryz.prog jQ W) : eW W.heap.size W :=
 Lib.tabBelow_of_tabIs (Lib.tabIs_of_head (g:=4) (t:=317) (e:=100) (n:=20) aj aj aj aj aj aj (laidMet.tail (laidMet.tail h)))
theorem Tryz.cells338 : Tryz.prog.cellsOf 338 = 1:=aj
theorem Tryz.star : "*" ++ "errors.errorString" = "*errors.errorString":=av
theorem EN (u : TypeId) (h : Tryz.prog.typeName? 3 u = some "*errors.errorString") : u = 336 :=
 typeName_ptr_named (nm:= "errors.errorString") (by rw [Tryz.star]; kernel_rfl) aj av u (by rw [Tryz.star]; exact h)
theorem rX {W W' : World} {n : String} {g : Nat} {cs : Array Value} (hg : Tryz.prog.globalNamed n = some g) (h : W.var? Tryz.prog n = some cs) (hb : Below W.heap.size W W') : W'.var? Tryz.prog n = some cs:=by
 unfold World.var? at h ⊢
 simp only [hg,Option.bind_some] at h ⊢
 have hlt : g < W.heap.size:=by
  rcases Nat.lt_or_ge g W.heap.size with h' | h'
  ·exact h'
  ·simp [Array.getElem?_eq_none h'] at h
 rw [hb.block g hlt];exact h
theorem Fb {W : World} (h : laidMet Tryz.prog jQ W) : rx W.heap.size W:=by
 have h4:=laidMet.tail (laidMet.tail (laidMet.tail (laidMet.tail h)));obtain ⟨a0,s0,hv0,-,-,-⟩:=laid_sentinel (g:=6) (ti:=222) (tp:=336) (te:=338) (ts:=9) h4 aj aj Tryz.underlying222 EN Tryz.underlying336 Tryz.underlying338 rfl rfl Tryz.underlying9 Tryz.cells338 Tryz.cells9;obtain ⟨a1,s1,hv1,-,-,-⟩:=laid_sentinel (g:=5) (ti:=222) (tp:=336) (te:=338) (ts:=9) (laidMet.tail h4) aj aj Tryz.underlying222 EN Tryz.underlying336 Tryz.underlying338 rfl rfl Tryz.underlying9 Tryz.cells338 Tryz.cells9
 exact ⟨⟨_,_,fun W' hb => rX (g:=5) aj hv1 hb⟩,⟨_,_,fun W' hb => rX (g:=6) aj hv0 hb⟩⟩
theorem FT (w : World) (h : w.ShapedOpen Tryz.prog) : qg w :=
 (fun w h => Go.Proofs.cell_of_shapedOpen_int (zero:=#[.int .i64 0]) (t:=3) h (of_decide_eq_true aj) aj rfl aj aj Tryz.underlying3) w h
theorem IM {W : World} (hL : laidMetH Tryz.prog jQ W) (hs : W.ShapedOpen Tryz.prog) : iG W.heap.size W:=by
 rw [pZ] at hL;have hm:=FT W hs;refine ⟨GM hL,Fb hL,kinds_met hL,hm,?_,Nat.le_refl _⟩;obtain ⟨m,hc⟩:=hm;exact World.block_lt_of_cell? W ⟨3,0,none⟩ hc
end Go.Proofs.YtheefojaplnnoaaGreatDoor
namespace Go.Proofs.YtheefojaplnnoaaGreatDoor.textPrints
open Go.ChangeShapes Go.WideShapes Go.ChangeAt Go.RowKit
theorem lifted (os : Os) (started : os.Started) (H : Type) (enc : TypeId × Value → H) :
  ReturnsInHanded {} Tryz.checked os 3 .any (fun w args => (Rows.textPrintsSpec.pre enc Tryz.prog Tryz.f3 [] false w args ∧ laidMetH Tryz.prog jQ w) ∧ sizedMet enc Tryz.prog Tryz.f3 (OpenSpec.ofChange Rows.textPrintsSpec) false w args) (Rows.textPrintsSpec.post enc Tryz.prog Tryz.f3 false true false false):=by
 refine returnsInHanded_of_row (C:=Tryz.checked) (s:=OpenSpec.ofChange Rows.textPrintsSpec) (F:=fun _ _ _ => 0) (laid:=jQ) KV started aj Tryz.func3
  (ChangeSpec.witness_shaped (enc:=enc) (C:=Tryz.checked) (os:=os) (X:=fun w _ => laidMetH Tryz.prog jQ w) false (World.laidAll Tryz.prog os jQ) #[.agg #[.slice none 0 0,.slice none 0 0,.slice none 0 0,.int .i64 0,.int .i64 0,.slice none 0 0,.slice none 0 0,.slice none 0 0]] 8 (World.laidAll_os _ _ _)
   (World.shaped_of_ZipB aj aj) aj aj aj (met os _)) ?_
 intro W base args ds gs before hval0 hW _ _ hsz0 hL hshape _
 have hsz : (DataW.weightsEach Tryz.prog (Tryz.f3.params.toList ++ Rows.textPrintsSpec.plain.varTypes Tryz.prog) (ds ++ gs)).all (· ≤ reachBytes) = true:=hsz0
 have hW':=hW;obtain ⟨p,q,hA0,hV,rfl,hfz,hnd⟩:=hW
 have hA : DataW.TrodAll enc Tryz.prog W 0 (fun _ => true) true Tryz.f3.params.toList args.toList ds p:=hA0
 have hval : ∀ (j : Nat) t v,Tryz.f3.params[j]? = some t → args[j]? = some v → Value.okWide Tryz.prog W .any base t v:=hval0;rw [Tryz.params3] at hA hval hsz;obtain ⟨v0,vs0,d0,ds0,p0,q0,hargs,rfl,rfl,h0,r0⟩:=trodAll_cons hA;obtain ⟨rfl,rfl,rfl⟩:=trodAll_nil r0
 obtain rfl : args = #[v0]:=by cases args; simp_all
 obtain ⟨rfl,rfl⟩:=trodVars_none hV;have k0:=h0
 have lt0 : ∀ x ∈ p0,x.block < W.heap.size:=by obtain ⟨m,hm⟩:=k0; exact DataW.trod_lt m _ _ _ hm
 have hw0 : ∀ n ∈ d0.weights Tryz.prog 29,n ≤ reachBytes:=fun n hn => by
  have:=List.all_eq_true.1 hsz n (DataW.weights_mem_each (j:=0) (t:=29) rfl rfl n hn)
  exact b9
 obtain ⟨m,rfl,hr⟩:=vV (hval 0 29 v0 rfl rfl) h0 hw0;clear hA0 hval0
 refine (wY W.heap.size m W (IM hL hshape) hr).mono fun e W' ⟨he,bel⟩ => ?_
 subst he
 exact ⟨_,rfl,_,_,_,[],_,[],hW',trodAll_mk1 (shut_bool Tryz.underlying4 _),(trodAll_cons_mk (Below.trod laidOut aj (of_decide_eq_true aj) k0 bel lt0) trodAll_mk0),rfl,bel.frame _,fun h => cw⟩
end Go.Proofs.YtheefojaplnnoaaGreatDoor.textPrints
namespace Go.Proofs.YtheefojaplnnoaaGreatDoor.textPrints
open Go.RowKit
theorem LR {a b : Bool} (ha : a = true) (hb : b = true) : (a && b) = true:=by rw [ha,hb]; rfl
theorem facts : joinedFacts Tryz.pinned.checked.prog 3 Tryz.f3 Rows.textPrintsSpec Rows.textPrintsRow = true:=by
 unfold joinedFacts
 repeat' (with_reducible refine LR ?_ ?_)
 all_goals (as_aux_lemma => kernel_rfl)
end Go.Proofs.YtheefojaplnnoaaGreatDoor.textPrints
