/-
  Texts Qj Kg Vii Ma.
-/
import Derived.BigQuiet
import Derived.Deep.QuietTactic
import Derived.Test.YtepnnenohjfkbaaGreatDoorP00
import Derived.Test.YtepnnenohjfkbaaGreatDoorP23
import Derived.Test.YtepnnenohjfkbaaGreatDoorP40
import Derived.Test.YtepnnenohjfkbaaGreatDoorP45
set_option linter.unusedVariables false
set_option maxRecDepth 100000
set_option maxHeartbeats 16000000
namespace Go.Proofs.YtepnnenohjfkbaaGreatDoor
open Go.RowKit
theorem Pd {w : World} {base B n c : Nat} {l : List Sg} (h : w.ownsRow base 62 2 (.slice (some ⟨B,0,none⟩) (n + 64) c) (n + 64) ((l ++ iM n).flatMap gH)) (hl : l.length = n) : eA w (some ⟨B,0,none⟩) n l :=
 ⟨hl,.inr ⟨B,0,rfl,fun j x hj => by
  have hj' : (l ++ iM n)[j]? = some x:=(cF _ l (ax hj)).trans hj
  have hL : (l ++ iM n).length = n + 64:=by rw [List.length_append,hl,rx]
  rw [Nat.zero_add]
  exact ⟨bw (k:=2) gH (fun _ => rfl) h hL hj' 0 ae,bw (k:=2) gH (fun _ => rfl) h hL hj' 1 ae⟩⟩⟩
theorem OX {w : World} {base B n c : Nat} {l : List Gl} (h : w.ownsRow base 141 3 (.slice (some ⟨B,0,none⟩) (n + 64) c) (n + 64) ((l ++ i6 n).flatMap fO)) (hl : l.length = n) : jf w (some ⟨B,0,none⟩) n l :=
 ⟨hl,.inr ⟨B,0,rfl,fun j x hj => by
  have hj' : (l ++ i6 n)[j]? = some x:=(cF _ l (ax hj)).trans hj
  have hL : (l ++ i6 n).length = n + 64:=by rw [List.length_append,hl,qP]
  rw [Nat.zero_add]
  exact ⟨bw (k:=3) fO (fun _ => rfl) h hL hj' 0 ae,bw (k:=3) fO (fun _ => rfl) h hL hj' 1 ae,bw (k:=3) fO (fun _ => rfl) h hL hj' 2 ae⟩⟩⟩
theorem O1 {w : World} {base B n c : Nat} {l : List Ex} (h : w.ownsRow base 68 2 (.slice (some ⟨B,0,none⟩) (n + 64) c) (n + 64) ((l ++ iW n).flatMap gM)) (hl : l.length = n) : jL w (some ⟨B,0,none⟩) n l :=
 ⟨hl,.inr ⟨B,0,rfl,fun j x hj => by
  have hj' : (l ++ iW n)[j]? = some x:=(cF _ l (ax hj)).trans hj
  have hL : (l ++ iW n).length = n + 64:=by rw [List.length_append,hl,rJ]
  rw [Nat.zero_add]
  exact ⟨bw (k:=2) gM (fun _ => rfl) h hL hj' 0 ae,bw (k:=2) gM (fun _ => rfl) h hL hj' 1 ae⟩⟩⟩
theorem QP {m : MM} {w : World} {fs : List FuM} (hm : MSr w m) (hl : fs.length = m.fn) (hs : ∀ (j : Nat) x y,m.fns[j]? = some x → fs[j]? = some y → nV x y) : ∀ y ∈ fs,MA y:=fun y hy => by
 obtain ⟨j,hj⟩:=List.getElem?_of_mem hy;have hjl:=ax hj
 obtain ⟨x,hx⟩ : ∃ x,m.fns[j]? = some x:=⟨_,aN (by have:=hm.pf.1; omega)⟩
 have h1:=hs j x y hx hj;have h2:=hm.fx x (List.mem_of_getElem? hx)
 refine ⟨by rw [h1.2.2.1]; exact h2.2.1,fun z hz => ?_⟩
 obtain ⟨i,hi⟩:=List.getElem?_of_mem hz;have hil:=ax hi
 obtain ⟨a,ha⟩ : ∃ a,x.2.2.2[i]? = some a:=⟨_,aN (by have:=h1.2.2.2.1; omega)⟩
 have h3:=h1.2.2.2.2 i a z ha hi;unfold Gy;rw [h3.2.2.1];exact (h2.2.2 a (List.mem_of_getElem? ha)).2
theorem QW {m : MM} {w : World} {ds : List DaM} (hm : MSr w m) (hl : ds.length = m.dn) (hs : ∀ (j : Nat) x y,m.data[j]? = some x → ds[j]? = some y → rP x y) : ∀ y ∈ ds,H7 y:=fun y hy => by
 obtain ⟨j,hj⟩:=List.getElem?_of_mem hy;have hjl:=ax hj
 obtain ⟨x,hx⟩ : ∃ x,m.data[j]? = some x:=⟨_,aN (by have:=hm.pd.1; omega)⟩
 have h1:=hs j x y hx hj;unfold H7;rw [h1.2.1];exact (hm.dx x (List.mem_of_getElem? hx)).2
theorem KD (TB : Nat) {m : MM} {base : Nat} {w : World} {BT BH BG BF BD BE : Nat} {fs : List FuM} {ds : List DaM} (h : MWd m base w BT BH BG BF BD BE fs ds) (hm : MSr w m) (ht : jW TB w) (hTB : TB ≤ w.heap.size) :
  Calls Tryz.prog 26 #[.agg (mV (wMM m BT BH BG BF BD BE fs ds))] w fun e w' => e = .returned (.bool true) ∧ Below w.heap.size w w':=by
 have HH:=hid (fun (W : World) (hb : Below w.heap.size w W) => h.later hb)
 have HM:=hid (fun (W : World) (hb : Below w.heap.size w W) => hm.later hb)
 have HT:=hid (fun (W : World) (hb : Below w.heap.size w W) => (⟨ht.later (hb.mono hTB),Nat.le_trans hTB hb.size⟩ : jW TB W ∧ TB ≤ W.heap.size))
 have B0:=aj w (bD (some ⟨BT,0,none⟩) m.tn (m.tn + 64) (some ⟨BH,0,none⟩) m.hn (m.hn + 64) (some ⟨BG,0,none⟩) m.gn (m.gn + 64) m.fi m.mo (some ⟨BF,0,none⟩) m.fn (m.fn + 64) (some ⟨BD,0,none⟩) m.dn (m.dn + 64) (some ⟨BE,0,none⟩) m.en (m.en + 64));have b0:=heap_alloc_new w (bD (some ⟨BT,0,none⟩) m.tn (m.tn + 64) (some ⟨BH,0,none⟩) m.hn (m.hn + 64) (some ⟨BG,0,none⟩) m.gn (m.gn + 64) m.fi m.mo (some ⟨BF,0,none⟩) m.fn (m.fn + 64) (some ⟨BD,0,none⟩) m.dn (m.dn + 64) (some ⟨BE,0,none⟩) m.en (m.en + 64))
 have HX:=hid (fun (W : World) (hb : Below (w.alloc (bD (some ⟨BT,0,none⟩) m.tn (m.tn + 64) (some ⟨BH,0,none⟩) m.hn (m.hn + 64) (some ⟨BG,0,none⟩) m.gn (m.gn + 64) m.fi m.mo (some ⟨BF,0,none⟩) m.fn (m.fn + 64) (some ⟨BD,0,none⟩) m.dn (m.dn + 64) (some ⟨BE,0,none⟩) m.en (m.en + 64))).heap.size (w.alloc (bD (some ⟨BT,0,none⟩) m.tn (m.tn + 64) (some ⟨BH,0,none⟩) m.hn (m.hn + 64) (some ⟨BG,0,none⟩) m.gn (m.gn + 64) m.fi m.mo (some ⟨BF,0,none⟩) m.fn (m.fn + 64) (some ⟨BD,0,none⟩) m.dn (m.dn + 64) (some ⟨BE,0,none⟩) m.en (m.en + 64))) W) => (⟨ag hb (ai b0),ag hb (ai b0),ag hb (ai b0),ag hb (ai b0),ag hb (ai b0),ag hb (ai b0),ag hb (ai b0),ag hb (ai b0)⟩ : W.cell? ⟨w.heap.size,0,none⟩ = some (.slice (some ⟨BT,0,none⟩) m.tn (m.tn + 64)) ∧ W.cell? ⟨w.heap.size,1,none⟩ = some (.slice (some ⟨BH,0,none⟩) m.hn (m.hn + 64)) ∧ W.cell? ⟨w.heap.size,2,none⟩ = some (.slice (some ⟨BG,0,none⟩) m.gn (m.gn + 64)) ∧ W.cell? ⟨w.heap.size,3,none⟩ = some (.int .i64 m.fi) ∧ W.cell? ⟨w.heap.size,4,none⟩ = some (.int .i64 m.mo) ∧ W.cell? ⟨w.heap.size,5,none⟩ = some (.slice (some ⟨BF,0,none⟩) m.fn (m.fn + 64)) ∧ W.cell? ⟨w.heap.size,6,none⟩ = some (.slice (some ⟨BD,0,none⟩) m.dn (m.dn + 64)) ∧ W.cell? ⟨w.heap.size,7,none⟩ = some (.slice (some ⟨BE,0,none⟩) m.en (m.en + 64))))
 obtain ⟨m0,m1,m2,m3,m4,m5,m6,m7⟩:=HX.out _ (Below.refl _ _);have HB0:=hid B0;have HBX:=hid (Below.refl (w.alloc (bD (some ⟨BT,0,none⟩) m.tn (m.tn + 64) (some ⟨BH,0,none⟩) m.hn (m.hn + 64) (some ⟨BG,0,none⟩) m.gn (m.gn + 64) m.fi m.mo (some ⟨BF,0,none⟩) m.fn (m.fn + 64) (some ⟨BD,0,none⟩) m.dn (m.dn + 64) (some ⟨BE,0,none⟩) m.en (m.en + 64))).heap.size (w.alloc (bD (some ⟨BT,0,none⟩) m.tn (m.tn + 64) (some ⟨BH,0,none⟩) m.hn (m.hn + 64) (some ⟨BG,0,none⟩) m.gn (m.gn + 64) m.fi m.mo (some ⟨BF,0,none⟩) m.fn (m.fn + 64) (some ⟨BD,0,none⟩) m.dn (m.dn + 64) (some ⟨BE,0,none⟩) m.en (m.en + 64))));have BFU:=hid (QP hm h.fl h.fs);have BDA:=hid (QW hm h.dl h.ds);clear h hm ht B0 b0
 show Calls Tryz.prog 26 #[.agg #[.slice (some ⟨BT,0,none⟩) m.tn (m.tn + 64),.slice (some ⟨BH,0,none⟩) m.hn (m.hn + 64),.slice (some ⟨BG,0,none⟩) m.gn (m.gn + 64),.int .i64 m.fi,.int .i64 m.mo,.slice (some ⟨BF,0,none⟩) m.fn (m.fn + 64),.slice (some ⟨BD,0,none⟩) m.dn (m.dn + 64),.slice (some ⟨BE,0,none⟩) m.en (m.en + 64)]] w _
 go_enter Tryz.func26,Tryz.ntmps26
 go_wp2_with fail
 refine (MI TB base BT m.tn m.types _ (HM.out _ HB0.out).pt.1 (by have:=(HM.out _ HB0.out).tn; omega) (HT.out _ HB0.out).1 (HT.out _ HB0.out).2 (HH.out _ HB0.out).rT).mono ?_
 rintro e w1 ⟨rfl,hb⟩;have HB1:=hid (HB0.out.trans (hb.mono HB0.out.size));have HBX:=hid (HBX.out.trans (hb.mono HBX.out.size));obtain ⟨m0,m1,m2,m3,m4,m5,m6,m7⟩:=HX.out _ HBX.out;clear hb;go_wp2_with fail
 refine (BM 0 base BH m.hn m.hosts _ (HM.out _ HB1.out).ph.1 (by have:=(HM.out _ HB1.out).hn; omega) (HH.out _ HB1.out).rH).mono ?_
 rintro e w2 ⟨rfl,hb⟩;have HB2:=hid (HB1.out.trans (hb.mono HB1.out.size));have HBX:=hid (HBX.out.trans (hb.mono HBX.out.size));obtain ⟨m0,m1,m2,m3,m4,m5,m6,m7⟩:=HX.out _ HBX.out;clear hb;go_wp2_with fail
 refine (M4 0 base BG m.gn m.globals _ (HM.out _ HB2.out).pg.1 (by have:=(HM.out _ HB2.out).gn; omega) (HH.out _ HB2.out).rG).mono ?_
 rintro e w3 ⟨rfl,hb⟩;have HB3:=hid (HB2.out.trans (hb.mono HB2.out.size));have HBX:=hid (HBX.out.trans (hb.mono HBX.out.size));obtain ⟨m0,m1,m2,m3,m4,m5,m6,m7⟩:=HX.out _ HBX.out;clear hb;go_wp2_with fail;refine (MV base base BF m.fn fs _ (HH.out _ HB3.out).fl (HM.out _ HB3.out).fn (HH.out _ HB3.out).rF (HH.out _ HB3.out).wF BFU.out).mono ?_;rintro e w4 ⟨rfl,hb⟩;have HB4:=hid (HB3.out.trans (hb.mono HB3.out.size));have HBX:=hid (HBX.out.trans (hb.mono HBX.out.size));obtain ⟨m0,m1,m2,m3,m4,m5,m6,m7⟩:=HX.out _ HBX.out;clear hb;go_wp2_with fail;refine (Nf base base BD m.dn ds _ (HH.out _ HB4.out).dl (HM.out _ HB4.out).dn (HH.out _ HB4.out).rD (HH.out _ HB4.out).wD BDA.out).mono ?_;rintro e w5 ⟨rfl,hb⟩;have HB5:=hid (HB4.out.trans (hb.mono HB4.out.size));have HBX:=hid (HBX.out.trans (hb.mono HBX.out.size));obtain ⟨m0,m1,m2,m3,m4,m5,m6,m7⟩:=HX.out _ HBX.out;clear hb;go_wp2_with fail
 refine (L9 TB base BE m.en m.exps _ (HM.out _ HB5.out).pe.1 (by have:=(HM.out _ HB5.out).en; omega) (HT.out _ HB5.out).1 (HT.out _ HB5.out).2 (HH.out _ HB5.out).rE).mono ?_
 rintro e w6 ⟨rfl,hb⟩;have HB6:=hid (HB5.out.trans (hb.mono HB5.out.size));have HBX:=hid (HBX.out.trans (hb.mono HBX.out.size));obtain ⟨m0,m1,m2,m3,m4,m5,m6,m7⟩:=HX.out _ HBX.out;clear hb;go_wp2_with fail;go_ret;exact ⟨rfl,HB6.out⟩
theorem QA {m : MM} {base : Nat} {w : World} {BT BH BG BF BD BE : Nat} {fs : List FuM} {ds : List DaM} (h : MWd m base w BT BH BG BF BD BE fs ds) (hm : MSr w m) :
  Calls Tryz.prog 25 #[.agg (mV (wMM m BT BH BG BF BD BE fs ds)),.agg (mV m)] w fun e w' => e = .returned (.bool true) ∧ Below w.heap.size w w':=by
 have HH:=hid (fun (W : World) (hb : Below w.heap.size w W) => h.later hb)
 have HM:=hid (fun (W : World) (hb : Below w.heap.size w W) => hm.later hb)
 have B1:=aj w (bD (some ⟨BT,0,none⟩) m.tn (m.tn + 64) (some ⟨BH,0,none⟩) m.hn (m.hn + 64) (some ⟨BG,0,none⟩) m.gn (m.gn + 64) m.fi m.mo (some ⟨BF,0,none⟩) m.fn (m.fn + 64) (some ⟨BD,0,none⟩) m.dn (m.dn + 64) (some ⟨BE,0,none⟩) m.en (m.en + 64));have B2:=aj (w.alloc (bD (some ⟨BT,0,none⟩) m.tn (m.tn + 64) (some ⟨BH,0,none⟩) m.hn (m.hn + 64) (some ⟨BG,0,none⟩) m.gn (m.gn + 64) m.fi m.mo (some ⟨BF,0,none⟩) m.fn (m.fn + 64) (some ⟨BD,0,none⟩) m.dn (m.dn + 64) (some ⟨BE,0,none⟩) m.en (m.en + 64))) (bD m.ta m.tn m.tc m.ha m.hn m.hc m.ga m.gn m.gc m.fi m.mo m.fa m.fn m.fc m.da m.dn m.dc m.ea m.en m.ec);have b1:=ar B2 (heap_alloc_new w (bD (some ⟨BT,0,none⟩) m.tn (m.tn + 64) (some ⟨BH,0,none⟩) m.hn (m.hn + 64) (some ⟨BG,0,none⟩) m.gn (m.gn + 64) m.fi m.mo (some ⟨BF,0,none⟩) m.fn (m.fn + 64) (some ⟨BD,0,none⟩) m.dn (m.dn + 64) (some ⟨BE,0,none⟩) m.en (m.en + 64)));have b2 : ((w.alloc (bD (some ⟨BT,0,none⟩) m.tn (m.tn + 64) (some ⟨BH,0,none⟩) m.hn (m.hn + 64) (some ⟨BG,0,none⟩) m.gn (m.gn + 64) m.fi m.mo (some ⟨BF,0,none⟩) m.fn (m.fn + 64) (some ⟨BD,0,none⟩) m.dn (m.dn + 64) (some ⟨BE,0,none⟩) m.en (m.en + 64))).alloc (bD m.ta m.tn m.tc m.ha m.hn m.hc m.ga m.gn m.gc m.fi m.mo m.fa m.fn m.fc m.da m.dn m.dc m.ea m.en m.ec)).heap[w.heap.size + 1]? = some (bD m.ta m.tn m.tc m.ha m.hn m.hc m.ga m.gn m.gc m.fi m.mo m.fa m.fn m.fc m.da m.dn m.dc m.ea m.en m.ec):=alloc_at ak;have B0 : Below w.heap.size w ((w.alloc (bD (some ⟨BT,0,none⟩) m.tn (m.tn + 64) (some ⟨BH,0,none⟩) m.hn (m.hn + 64) (some ⟨BG,0,none⟩) m.gn (m.gn + 64) m.fi m.mo (some ⟨BF,0,none⟩) m.fn (m.fn + 64) (some ⟨BD,0,none⟩) m.dn (m.dn + 64) (some ⟨BE,0,none⟩) m.en (m.en + 64))).alloc (bD m.ta m.tn m.tc m.ha m.hn m.hc m.ga m.gn m.gc m.fi m.mo m.fa m.fn m.fc m.da m.dn m.dc m.ea m.en m.ec)):=B1.trans (B2.mono ak)
 have HX:=hid (fun (W : World) (hb : Below ((w.alloc (bD (some ⟨BT,0,none⟩) m.tn (m.tn + 64) (some ⟨BH,0,none⟩) m.hn (m.hn + 64) (some ⟨BG,0,none⟩) m.gn (m.gn + 64) m.fi m.mo (some ⟨BF,0,none⟩) m.fn (m.fn + 64) (some ⟨BD,0,none⟩) m.dn (m.dn + 64) (some ⟨BE,0,none⟩) m.en (m.en + 64))).alloc (bD m.ta m.tn m.tc m.ha m.hn m.hc m.ga m.gn m.gc m.fi m.mo m.fa m.fn m.fc m.da m.dn m.dc m.ea m.en m.ec)).heap.size ((w.alloc (bD (some ⟨BT,0,none⟩) m.tn (m.tn + 64) (some ⟨BH,0,none⟩) m.hn (m.hn + 64) (some ⟨BG,0,none⟩) m.gn (m.gn + 64) m.fi m.mo (some ⟨BF,0,none⟩) m.fn (m.fn + 64) (some ⟨BD,0,none⟩) m.dn (m.dn + 64) (some ⟨BE,0,none⟩) m.en (m.en + 64))).alloc (bD m.ta m.tn m.tc m.ha m.hn m.hc m.ga m.gn m.gc m.fi m.mo m.fa m.fn m.fc m.da m.dn m.dc m.ea m.en m.ec)) W) => (⟨ag hb (ai b1),ag hb (ai b1),ag hb (ai b1),ag hb (ai b1),ag hb (ai b1),ag hb (ai b1),ag hb (ai b1),ag hb (ai b1),ag hb (ai b2),ag hb (ai b2),ag hb (ai b2),ag hb (ai b2),ag hb (ai b2),ag hb (ai b2),ag hb (ai b2),ag hb (ai b2)⟩ : W.cell? ⟨w.heap.size,0,none⟩ = some (.slice (some ⟨BT,0,none⟩) m.tn (m.tn + 64)) ∧ W.cell? ⟨w.heap.size,1,none⟩ = some (.slice (some ⟨BH,0,none⟩) m.hn (m.hn + 64)) ∧ W.cell? ⟨w.heap.size,2,none⟩ = some (.slice (some ⟨BG,0,none⟩) m.gn (m.gn + 64)) ∧ W.cell? ⟨w.heap.size,3,none⟩ = some (.int .i64 m.fi) ∧ W.cell? ⟨w.heap.size,4,none⟩ = some (.int .i64 m.mo) ∧ W.cell? ⟨w.heap.size,5,none⟩ = some (.slice (some ⟨BF,0,none⟩) m.fn (m.fn + 64)) ∧ W.cell? ⟨w.heap.size,6,none⟩ = some (.slice (some ⟨BD,0,none⟩) m.dn (m.dn + 64)) ∧ W.cell? ⟨w.heap.size,7,none⟩ = some (.slice (some ⟨BE,0,none⟩) m.en (m.en + 64)) ∧ W.cell? ⟨w.heap.size + 1,0,none⟩ = some (.slice m.ta m.tn m.tc) ∧ W.cell? ⟨w.heap.size + 1,1,none⟩ = some (.slice m.ha m.hn m.hc) ∧ W.cell? ⟨w.heap.size + 1,2,none⟩ = some (.slice m.ga m.gn m.gc) ∧ W.cell? ⟨w.heap.size + 1,3,none⟩ = some (.int .i64 m.fi) ∧ W.cell? ⟨w.heap.size + 1,4,none⟩ = some (.int .i64 m.mo) ∧ W.cell? ⟨w.heap.size + 1,5,none⟩ = some (.slice m.fa m.fn m.fc) ∧ W.cell? ⟨w.heap.size + 1,6,none⟩ = some (.slice m.da m.dn m.dc) ∧ W.cell? ⟨w.heap.size + 1,7,none⟩ = some (.slice m.ea m.en m.ec)))
 obtain ⟨m0,m1,m2,m3,m4,m5,m6,m7,k0,k1,k2,k3,k4,k5,k6,k7⟩:=HX.out _ (Below.refl _ _);have HB0:=hid B0;have HBX:=hid (Below.refl ((w.alloc (bD (some ⟨BT,0,none⟩) m.tn (m.tn + 64) (some ⟨BH,0,none⟩) m.hn (m.hn + 64) (some ⟨BG,0,none⟩) m.gn (m.gn + 64) m.fi m.mo (some ⟨BF,0,none⟩) m.fn (m.fn + 64) (some ⟨BD,0,none⟩) m.dn (m.dn + 64) (some ⟨BE,0,none⟩) m.en (m.en + 64))).alloc (bD m.ta m.tn m.tc m.ha m.hn m.hc m.ga m.gn m.gc m.fi m.mo m.fa m.fn m.fc m.da m.dn m.dc m.ea m.en m.ec)).heap.size ((w.alloc (bD (some ⟨BT,0,none⟩) m.tn (m.tn + 64) (some ⟨BH,0,none⟩) m.hn (m.hn + 64) (some ⟨BG,0,none⟩) m.gn (m.gn + 64) m.fi m.mo (some ⟨BF,0,none⟩) m.fn (m.fn + 64) (some ⟨BD,0,none⟩) m.dn (m.dn + 64) (some ⟨BE,0,none⟩) m.en (m.en + 64))).alloc (bD m.ta m.tn m.tc m.ha m.hn m.hc m.ga m.gn m.gc m.fi m.mo m.fa m.fn m.fc m.da m.dn m.dc m.ea m.en m.ec)));have f1 : (m.fi == m.fi) = true:=ak;have f2 : (m.mo == m.mo) = true:=ak;clear h hm B0 B1 B2 b1 b2
 show Calls Tryz.prog 25 #[.agg #[.slice (some ⟨BT,0,none⟩) m.tn (m.tn + 64),.slice (some ⟨BH,0,none⟩) m.hn (m.hn + 64),.slice (some ⟨BG,0,none⟩) m.gn (m.gn + 64),.int .i64 m.fi,.int .i64 m.mo,.slice (some ⟨BF,0,none⟩) m.fn (m.fn + 64),.slice (some ⟨BD,0,none⟩) m.dn (m.dn + 64),.slice (some ⟨BE,0,none⟩) m.en (m.en + 64)],.agg #[.slice m.ta m.tn m.tc,.slice m.ha m.hn m.hc,.slice m.ga m.gn m.gc,.int .i64 m.fi,.int .i64 m.mo,.slice m.fa m.fn m.fc,.slice m.da m.dn m.dc,.slice m.ea m.en m.ec]] w _
 go_enter Tryz.func25,Tryz.ntmps25
 go_wp2_with fail
 refine (SB (some ⟨BT,0,none⟩) m.ta m.tn (m.tn + 64) m.tc m.types _ (Pd (HH.out _ HB0.out).rT (HM.out _ HB0.out).pt.1) (HM.out _ HB0.out).pt (by have:=(HM.out _ HB0.out).tn; omega)).mono ?_
 rintro e w1 ⟨rfl,hb⟩;have HB1:=hid (HB0.out.trans (hb.mono HB0.out.size));have HBX:=hid (HBX.out.trans (hb.mono HBX.out.size));obtain ⟨m0,m1,m2,m3,m4,m5,m6,m7,k0,k1,k2,k3,k4,k5,k6,k7⟩:=HX.out _ HBX.out;clear hb;go_wp2_with fail
 refine (Qw (some ⟨BH,0,none⟩) m.ha m.hn (m.hn + 64) m.hc m.hosts _ (KG (HH.out _ HB1.out).rH (HM.out _ HB1.out).ph.1) (HM.out _ HB1.out).ph (by have:=(HM.out _ HB1.out).hn; omega)).mono ?_
 rintro e w2 ⟨rfl,hb⟩;have HB2:=hid (HB1.out.trans (hb.mono HB1.out.size));have HBX:=hid (HBX.out.trans (hb.mono HBX.out.size));obtain ⟨m0,m1,m2,m3,m4,m5,m6,m7,k0,k1,k2,k3,k4,k5,k6,k7⟩:=HX.out _ HBX.out;clear hb;go_wp2_with fail
 refine (SA (some ⟨BG,0,none⟩) m.ga m.gn (m.gn + 64) m.gc m.globals _ (OX (HH.out _ HB2.out).rG (HM.out _ HB2.out).pg.1) (HM.out _ HB2.out).pg (by have:=(HM.out _ HB2.out).gn; omega)).mono ?_
 rintro e w3 ⟨rfl,hb⟩;have HB3:=hid (HB2.out.trans (hb.mono HB2.out.size));have HBX:=hid (HBX.out.trans (hb.mono HBX.out.size));obtain ⟨m0,m1,m2,m3,m4,m5,m6,m7,k0,k1,k2,k3,k4,k5,k6,k7⟩:=HX.out _ HBX.out;clear hb;go_wp2_with fail;refine (RX base BF m.fn (m.fn + 64) m.fa m.fc fs m.fns _ (HH.out _ HB3.out).fl (HM.out _ HB3.out).fn (HH.out _ HB3.out).rF (HH.out _ HB3.out).wF (HM.out _ HB3.out).pf (HM.out _ HB3.out).fx (HH.out _ HB3.out).fs).mono ?_;rintro e w4 ⟨rfl,hb⟩;have HB4:=hid (HB3.out.trans (hb.mono HB3.out.size));have HBX:=hid (HBX.out.trans (hb.mono HBX.out.size));obtain ⟨m0,m1,m2,m3,m4,m5,m6,m7,k0,k1,k2,k3,k4,k5,k6,k7⟩:=HX.out _ HBX.out;clear hb;go_wp2_with fail;refine (Sp base BD m.dn (m.dn + 64) m.da m.dc ds m.data _ (HH.out _ HB4.out).dl (HM.out _ HB4.out).dn (HH.out _ HB4.out).rD (HH.out _ HB4.out).wD (HM.out _ HB4.out).pd (HM.out _ HB4.out).dx (HH.out _ HB4.out).ds).mono ?_;rintro e w5 ⟨rfl,hb⟩;have HB5:=hid (HB4.out.trans (hb.mono HB4.out.size));have HBX:=hid (HBX.out.trans (hb.mono HBX.out.size));obtain ⟨m0,m1,m2,m3,m4,m5,m6,m7,k0,k1,k2,k3,k4,k5,k6,k7⟩:=HX.out _ HBX.out;clear hb;go_wp2_with fail
 refine (RY (some ⟨BE,0,none⟩) m.ea m.en (m.en + 64) m.ec m.exps _ (O1 (HH.out _ HB5.out).rE (HM.out _ HB5.out).pe.1) (HM.out _ HB5.out).pe (by have:=(HM.out _ HB5.out).en; omega)).mono ?_
 rintro e w6 ⟨rfl,hb⟩;have HB6:=hid (HB5.out.trans (hb.mono HB5.out.size));have HBX:=hid (HBX.out.trans (hb.mono HBX.out.size));obtain ⟨m0,m1,m2,m3,m4,m5,m6,m7,k0,k1,k2,k3,k4,k5,k6,k7⟩:=HX.out _ HBX.out;clear hb;go_wp2_with fail;go_ret;exact ⟨rfl,HB6.out⟩
def sI (y : InM) : InM:=(y.1,y.2.1,(none,0,0),y.2.2.2)
def sF (x : FuM) : FuM:=(x.1,x.2.1,(none,0,0),x.2.2.2.map sI)
def sD (x : DaM) : DaM:=(x.1,(none,0,0),x.2.2)
theorem lA {α β : Type} {f : List β → β → Int} {g : List α → α → Int} {s : α → β} (h : ∀ ah x,f (ah.map s) (s x) = g ah x) : ∀ (l ah : List α),aV f (ah.map s) (l.map s) = aV g ah l
 | [],_ => rfl
 | x :: r,ah => by
  rw [List.map_cons,aV,aV,h]
  have:=lA h r (ah ++ [x])
  rw [List.map_append] at this;rw [show ah.map s ++ [s x] = ah.map s ++ [x].map s from rfl,this]
theorem oD {α β : Type} {f : List β → β → Int} {g : List α → α → Int} {s : α → β} (h : ∀ ah x,f (ah.map s) (s x) = g ah x) (k : Int) (l : List α) : bq f k (l.map s) = bq g k l:=by
 unfold bq;rw [List.length_map]
 have:=lA h l []
 rw [List.map_nil] at this;rw [this]
theorem yA (l : List FuM) : bM (l.map sF) = bM l:=by
 unfold bM;rw [List.map_map]
 congr 1
 apply List.map_congr_left
 intro x _
 simp [sF]
theorem rQ (sg : List Sg) (ah : List FuM) (x : FuM) : cz sg (ah.map sF) (sF x) = cz sg ah x:=by
 unfold cz eW;rw [yA]
 show (if x.1 < 0 ∨ (sg.length : Int) ≤ x.1 then 30 else if 64 < x.2.1.size + (jY sg x.1).size then 13 else if lett x.2.1 64 = false then 15 else if min 2048 (16384 - (bM ah : Int)) < ((x.2.2.2.map sI).length : Int) then 20 else aV (fun _ x => cA x) [] (x.2.2.2.map sI)) = _
 rw [List.length_map]
 have:=lA (f:=fun (_ : List InM) x => cA x) (g:=fun (_ : List InM) x => cA x) (s:=sI) (fun _ _ => rfl) x.2.2.2 []
 rw [List.map_nil] at this;rw [this]
theorem Gn (ah : List DaM) (v : Int) : eG (ah.map sD) v = eG ah v:=by
 unfold eG;rw [List.getLast?_map]
 cases ah.getLast? <;> rfl
theorem Au (room : Int) (ah : List DaM) (x : DaM) : bL room (ah.map sD) (sD x) = bL room ah x:=by
 unfold bL;rw [Gn];rfl
theorem sZ (l : List FuM) : (l.map sF).flatMap bR = l.flatMap bR:=by
 rw [List.flatMap_map]
 congr 1
 funext x
 unfold bR p8 sF;dsimp only;rw [List.length_map,List.flatMap_map];rfl
theorem tq (l : List DaM) : (l.map sD).flatMap bU = l.flatMap bU:=by
 rw [List.flatMap_map];rfl
section
variable {m : MM} {base : Nat} {w : World} {BT BH BG BF BD BE : Nat} {fs : List FuM} {ds : List DaM}
theorem qY {α β : Type} {s : α → β} {l k : List α} (hl : k.length = l.length) (h : ∀ (j : Nat) x y,l[j]? = some x → k[j]? = some y → s y = s x) : k.map s = l.map s:=by
 apply List.ext_getElem?
 intro j;rw [List.getElem?_map,List.getElem?_map]
 rcases Nat.lt_or_ge j l.length with hj | hj
 ·rw [aN hj,aN ae]
  show some _ = some _
  rw [h j _ _ (aN hj) (aN ae)]
 ·rw [List.getElem?_eq_none ae,List.getElem?_eq_none ae]
theorem QE {x y : InM} (h : sk x y) : sI y = sI x:=by
 unfold sI;rw [h.1,h.2.1,h.2.2.2]
theorem Rx {x y : FuM} (h : nV x y) : sF y = sF x:=by
 unfold sF
 rw [h.1,h.2.1,qY (s:=sI) h.2.2.2.1 (fun j a b ha hb => QE (h.2.2.2.2 j a b ha hb))]
theorem QJ {x y : DaM} (h : rP x y) : sD y = sD x:=by
 unfold sD;rw [h.1,h.2.2]
theorem Hj (h : MWd m base w BT BH BG BF BD BE fs ds) (hf : m.fns.length = m.fn) (hd : m.data.length = m.dn) : cB (wMM m BT BH BG BF BD BE fs ds) = cB m:=by
 have ef : fs.map sF = m.fns.map sF:=qY (by rw [h.fl,hf]) (fun j x y hx hy => Rx (h.fs j x y hx hy))
 have ed : ds.map sD = m.data.map sD:=qY (by rw [h.dl,hd]) (fun j x y hx hy => QJ (h.ds j x y hx hy))
 have h6 : e6 (wMM m BT BH BG BF BD BE fs ds) = e6 m:=by
  show bq (cz m.types) 128 fs = bq (cz m.types) 128 m.fns
  rw [← oD (rQ m.types) 128 fs,ef,oD (rQ m.types)]
 have h7 : e7 (wMM m BT BH BG BF BD BE fs ds) = e7 m:=by
  show bq (fun (ah : List DaM) x => bL (m.fi * 4096) ah x) 64 ds = bq (fun (ah : List DaM) x => bL (m.fi * 4096) ah x) 64 m.data
  have k:=fun l => oD (f:=fun (ah : List DaM) x => bL (m.fi * 4096) ah x) (g:=fun (ah : List DaM) x => bL (m.fi * 4096) ah x) (s:=sD) (fun ah x => Au (m.fi * 4096) ah x) 64 l
  rw [← k ds,ed,k]
 have hE : lC (wMM m BT BH BG BF BD BE fs ds) = lC m:=by
  unfold lC
  show _ ++ (_ ++ (_ ++ (_ ++ (_ ++ ((au m.fn ++ fs.flatMap bR) ++ ((au m.dn ++ ds.flatMap bU) ++ _)))))) = _
  rw [← sZ fs,ef,sZ,← tq ds,ed,tq];rfl
 unfold cB dQ;rw [h6,h7,hE];rfl
theorem GQ (h : MWd m base w BT BH BG BF BD BE fs ds) (hf : m.fns.length = m.fn) : SmM m (wMM m BT BH BG BF BD BE fs ds):=by
 refine ⟨rfl,rfl,rfl,rfl,rfl,rfl,rfl,fun a => ?_⟩
 show ((fs[a.toNat]?).map (fun f => f.1)).getD 0 = ((m.fns[a.toNat]?).map (fun f => f.1)).getD 0
 rcases Nat.lt_or_ge a.toNat m.fns.length with hj | hj
 ·have hj2 : a.toNat < fs.length:=by rw [h.fl]; omega
  rw [aN hj,aN hj2];exact (h.fs _ _ _ (aN hj) (aN hj2)).1
 ·rw [List.getElem?_eq_none hj,List.getElem?_eq_none (by rw [h.fl]; omega)]
theorem J2 {x y : FuM} (h : nV x y) : SmX (x.2.2.2.map inx) (y.2.2.2.map inx):=by
 have key : ∀ i,((y.2.2.2.map inx).getD i dx).c = ((x.2.2.2.map inx).getD i dx).c ∧ ((y.2.2.2.map inx).getD i dx).a = ((x.2.2.2.map inx).getD i dx).a ∧ ((y.2.2.2.map inx).getD i dx).l = ((x.2.2.2.map inx).getD i dx).l:=fun i => by
  rcases Nat.lt_or_ge i x.2.2.2.length with hj | hj
  ·have hj2 : i < y.2.2.2.length:=by rw [h.2.2.2.1]; exact hj
   have e1:=aN hj;have e2:=aN hj2;have hs:=h.2.2.2.2 i _ _ e1 e2;rw [fq e1,fq e2];exact ⟨hs.1,hs.2.1,hs.2.2.2⟩
  ·have e1 : (x.2.2.2.map inx).getD i dx = dx:=by rw [List.getD_eq_getElem?_getD,List.getElem?_eq_none (by rw [List.length_map]; exact hj)]; rfl
   have e2 : (y.2.2.2.map inx).getD i dx = dx:=by rw [List.getD_eq_getElem?_getD,List.getElem?_eq_none (by rw [List.length_map,h.2.2.2.1]; exact hj)]; rfl
   rw [e1,e2];exact ⟨rfl,rfl,rfl⟩
 exact ⟨funext fun i => (key i).1,fun i => (key i).2.1,fun i => (key i).2.2⟩
theorem G8 (h : MWd m base w BT BH BG BF BD BE fs ds) (hf : m.fns.length = m.fn) (hd : m.data.length = m.dn) (f : Int) (T : Nat → ByteArray) (sn : Nat) : ky (wMM m BT BH BG BF BD BE fs ds) f T sn = ky m f T sn:=by
 unfold ky;rw [Hj h hf hd]
 by_cases h0 : cB m = 0
 ·rw [if_pos h0,if_pos h0]
  show (if f < 0 ∨ (m.fn : Int) ≤ f then false else ((fs[f.toNat]?).map fun x => ll (wMM m BT BH BG BF BD BE fs ds) x T sn).getD false) = _
  by_cases hr : f < 0 ∨ (m.fn : Int) ≤ f
  ·rw [if_pos hr,if_pos hr]
  ·rw [if_neg hr,if_neg hr];have hj : f.toNat < m.fns.length:=ae
   have hj2 : f.toNat < fs.length:=by rw [h.fl]; omega
   have hs:=h.fs _ _ _ (aN hj) (aN hj2);rw [aN hj,aN hj2]
   show ll _ _ T sn = ll _ _ T sn
   have hx:=J2 hs;have hm:=GQ h hf;unfold ll;rw [hx.op,hs.1,hs.2.1,hs.2.2.1,JQ hm,OT hm hx]
 ·rw [if_neg h0,if_neg h0]
end
theorem zm (a : Option Addr) (cap : Nat) (w : World) : Calls Tryz.prog 29 #[.slice a 0 cap] w fun e w' => e = .returned (.int .i64 0) ∧ w' = w:=by
 go_enter Tryz.func29,Tryz.ntmps29
 go_wp2_with fail;refine wp_loop_rounds 1 ?_;rw [rounds_succ];exact pT
def szG : List InM → Nat → Nat
 | [],z => z
 | x :: r,z => if z ≤ 2147483647 then szG r (z + x.2.2.1.2.1) else z
theorem DG {x : InM} {r : List InM} {z : Nat} (h : z ≤ 2147483647) : szG (x :: r) z = szG r (z + x.2.2.1.2.1):=by simp [szG,h]
theorem Ct {x : InM} {r : List InM} {z : Nat} (h : ¬ z ≤ 2147483647) : szG (x :: r) z = z:=by simp [szG,h]
def nU (l : List DaM) : Nat:=(l.map fun x => x.2.1.2.1).sum
theorem kN {α : Type} {l : List α} {k : Nat} {x : α} (h : l[k]? = some x) : l.take (k + 1) = l.take k ++ [x]:=by
 have hk:=(List.getElem?_eq_some_iff.1 h).1;rw [List.take_succ_eq_append_getElem hk];rw [aN hk] at h;rw [Option.some.inj h]
theorem EO {l : List DaM} {k : Nat} {x : DaM} (h : l[k]? = some x) : nU (l.take (k + 1)) = nU (l.take k) + x.2.1.2.1:=by
 rw [kN h]; simp [nU]
theorem Kk {l : List DaM} {n : Nat} (h : l.length = n) : nU (l.take n) = nU l:=uB
def qT (l : List Sg) : Nat:=(l.map fun x => x.1.size + x.2.size).sum
def jG (l : List FuM) : Nat:=(l.map fun x => x.2.1.size + szG x.2.2.2 x.2.2.1.2.1).sum
def lV (l : List Ex) : Nat:=(l.map fun x => x.1.size).sum
theorem Ey {l : List Sg} {k : Nat} {x : Sg} (h : l[k]? = some x) : qT (l.take (k + 1)) = qT (l.take k) + (x.1.size + x.2.size):=by
 rw [kN h]; simp [qT]
theorem Ab {l : List FuM} {k : Nat} {x : FuM} (h : l[k]? = some x) : jG (l.take (k + 1)) = jG (l.take k) + (x.2.1.size + szG x.2.2.2 x.2.2.1.2.1):=by
 rw [kN h]; simp [jG]
theorem Fv {l : List Ex} {k : Nat} {x : Ex} (h : l[k]? = some x) : lV (l.take (k + 1)) = lV (l.take k) + x.1.size:=by
 rw [kN h]; simp [lV]
theorem J9 {l : List Sg} {n : Nat} (h : l.length = n) : qT (l.take n) = qT l:=uB
theorem Fi {l : List FuM} {n : Nat} (h : l.length = n) : jG (l.take n) = jG l:=uB
theorem JX {l : List Ex} {n : Nat} (h : l.length = n) : lV (l.take n) = lV l:=uB
theorem Es : ∀ (xs : List InM) (z : Nat),(∀ (j : Nat) x,xs[j]? = some x → x.2.2.1.2.1 ≤ 140737488355328) → z ≤ 281474976710656 → szG xs z ≤ 281474976710656
 | [],z,_,hz => hz
 | x :: r,z,hl,hz => by
  unfold szG
  split
  ·refine Es r _ (fun j y hj => hl (j + 1) y nY) ?_
   have:=hl 0 x rfl
   omega
  ·exact hz
structure SzC (w : World) (m : MM) : Prop where
 tn : m.tn ≤ 140737488355328
 hn : m.hn ≤ 140737488355328
 gn : m.gn ≤ 140737488355328
 fn : m.fn ≤ 140737488355328
 dn : m.dn ≤ 140737488355328
 en : m.en ≤ 140737488355328
 t : ∀ (j : Nat) x,m.types[j]? = some x → x.1.size ≤ 140737488355328 ∧ x.2.size ≤ 140737488355328
 f : ∀ (j : Nat) x,m.fns[j]? = some x → x.2.1.size ≤ 140737488355328 ∧ x.2.2.1.2.1 ≤ 140737488355328 ∧ AtIn w x.2.2.1.1 x.2.2.1.2.1 x.2.2.2 ∧ ∀ (i : Nat) y,x.2.2.2[i]? = some y → y.2.2.1.2.1 ≤ 140737488355328
 d : ∀ (j : Nat) x,m.data[j]? = some x → x.2.1.2.1 ≤ 140737488355328
 e : ∀ (j : Nat) x,m.exps[j]? = some x → x.1.size ≤ 140737488355328
theorem zC (b off cn cap : Nat) (xs : List InM) (w : World) (hn : cn ≤ 140737488355328) (hx : xs.length = cn)
  (hc : ∀ (j : Nat) x,xs[j]? = some x → w.cell? ⟨b,off + j * 3 + 2,none⟩ = some (.slice x.2.2.1.1 x.2.2.1.2.1 x.2.2.1.2.2)) (hl : ∀ (j : Nat) x,xs[j]? = some x → x.2.2.1.2.1 ≤ 140737488355328) :
  Calls Tryz.prog 29 #[.slice (some ⟨b,off,none⟩) cn cap] w fun e w' => e = .returned (.int .i64 (szG xs cn : Nat)) ∧ ∃ q,w' = w.drewN q:=by
 have HC:=hid hc;have HL:=hid hl;clear hc hl
 go_enter Tryz.func29,Tryz.ntmps29
 go_wp2_with fail
 go_loopw [3,4] (fun s i wr => ∃ k z : Nat,k ≤ cn ∧ s = .int .i64 (z : Nat) ∧ i = .int .i64 k ∧ (∃ m,wr = w.drewN m) ∧ z ≤ 281474976710656 ∧ szG (xs.drop k) z = szG xs cn) (fun _ i _ => cn - (intOf i).toNat)
 case atStart => exact ⟨0,cn,ae,rfl,rfl,⟨0,rfl⟩,ae,rfl⟩
 case round =>
  obtain ⟨k,z,hk,rfl,rfl,⟨m,rfl⟩,hsz,hG⟩:=hrel;have HG:=hid hG;clear hG
  by_cases hlt : k < cn
  ·obtain ⟨x,hxk⟩ : ∃ x,xs[k]? = some x:=⟨_,aN ae⟩
   have hdr : xs.drop k = x :: xs.drop (k + 1):=by
    have hlk : k < xs.length:=ae;rw [List.drop_eq_getElem_cons hlk]
    have:=aN hlk
    rw [hxk] at this;rw [Option.some.inj this]
   have HD:=hid hdr;clear hdr
   by_cases hbd : z ≤ 2147483647
   ·have g:=HC.out k x hxk;have hln:=HL.out k x hxk;have hlt' : (k : Int) < (cn : Int):=ae;have hbd' : (z : Int) ≤ 2147483647:=ae;go_wp2_with fail;refine ⟨⟨k + 1,z + x.2.2.1.2.1,ae,aX,aX,⟨m,rfl⟩,ae,?_⟩,aZ⟩;have h:=HG.out;rw [HD.out,DG hbd] at h;exact h
   ·have hlt' : (k : Int) < (cn : Int):=ae;have hbd' : ¬ (z : Int) ≤ 2147483647:=ae;go_wp2_with fail;go_ret;have h:=HG.out;rw [HD.out,Ct hbd] at h
    exact ⟨by rw [← h]; rfl,m,rfl⟩
  ·obtain rfl : k = cn:=ae;go_wp2_with fail;go_ret;have h:=HG.out;rw [List.drop_eq_nil_of_le ae] at h
   exact ⟨by rw [← h]; rfl,m,rfl⟩
theorem Nn (a : Option Addr) (cn cap : Nat) (xs : List InM) (w : World) (hn : cn ≤ 140737488355328) (hc : AtIn w a cn xs) (hl : ∀ (j : Nat) x,xs[j]? = some x → x.2.2.1.2.1 ≤ 140737488355328) :
  Calls Tryz.prog 29 #[.slice a cn cap] w fun e w' => e = .returned (.int .i64 (szG xs cn : Nat)) ∧ ∃ q,w' = w.drewN q:=by
 by_cases h0 : cn = 0
 ·subst h0;have : xs = []:=List.length_eq_zero_iff.1 hc.1;subst this
  exact (zm a cap w).mono fun e w' ⟨he,hw⟩ => ⟨he,0,hw⟩
 ·rcases hc.2 with h | ⟨b,off,rfl,hcd⟩
  ·exact absurd h h0
  ·exact zC b off cn cap xs w hn hc.1 (fun j x hj => (hcd j x hj).2.2) hl
end Go.Proofs.YtepnnenohjfkbaaGreatDoor
