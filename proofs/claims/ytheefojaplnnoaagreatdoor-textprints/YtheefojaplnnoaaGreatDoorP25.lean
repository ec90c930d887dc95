/-
  Texts Qj Pd Pe Pf.
-/
import Derived.Test.YtheefojaplnnoaaGreatDoorP00
import Derived.Test.YtheefojaplnnoaaGreatDoorP01
import Derived.Test.YtheefojaplnnoaaGreatDoorP06
import Derived.Test.YtheefojaplnnoaaGreatDoorP24
set_option linter.unusedVariables false
set_option maxRecDepth 100000
set_option maxHeartbeats 16000000
namespace Go.Proofs.YtheefojaplnnoaaGreatDoor
open Go.RowKit
theorem Lt {w : World} {base B n c : Nat} {l : List Sg} (h : w.ownsRow base 73 2 (.slice (some ⟨B,0,none⟩) (n + 64) c) (n + 64) ((l ++ jf n).flatMap dP)) (hl : l.length = n) : fk w (some ⟨B,0,none⟩) n l :=
 ⟨hl,.inr ⟨B,0,rfl,fun j x hj => by
  have hj' : (l ++ jf n)[j]? = some x:=(dt _ l (aA hj)).trans hj
  have hL : (l ++ jf n).length = n + 64:=by rw [List.length_append,hl,qp]
  rw [Nat.zero_add]
  exact ⟨br (k:=2) dP (fun _ => rfl) h hL hj' 0 ae,br (k:=2) dP (fun _ => rfl) h hL hj' 1 ae⟩⟩⟩
theorem MS {w : World} {base B n c : Nat} {l : List Gl} (h : w.ownsRow base 102 3 (.slice (some ⟨B,0,none⟩) (n + 64) c) (n + 64) ((l ++ jg n).flatMap fF)) (hl : l.length = n) : kg w (some ⟨B,0,none⟩) n l :=
 ⟨hl,.inr ⟨B,0,rfl,fun j x hj => by
  have hj' : (l ++ jg n)[j]? = some x:=(dt _ l (aA hj)).trans hj
  have hL : (l ++ jg n).length = n + 64:=by rw [List.length_append,hl,p9]
  rw [Nat.zero_add]
  exact ⟨br (k:=3) fF (fun _ => rfl) h hL hj' 0 ae,br (k:=3) fF (fun _ => rfl) h hL hj' 1 ae,br (k:=3) fF (fun _ => rfl) h hL hj' 2 ae⟩⟩⟩
theorem Lu {w : World} {base B n c : Nat} {l : List Ex} (h : w.ownsRow base 83 2 (.slice (some ⟨B,0,none⟩) (n + 64) c) (n + 64) ((l ++ jq n).flatMap fX)) (hl : l.length = n) : jD w (some ⟨B,0,none⟩) n l :=
 ⟨hl,.inr ⟨B,0,rfl,fun j x hj => by
  have hj' : (l ++ jq n)[j]? = some x:=(dt _ l (aA hj)).trans hj
  have hL : (l ++ jq n).length = n + 64:=by rw [List.length_append,hl,qL]
  rw [Nat.zero_add]
  exact ⟨br (k:=2) fX (fun _ => rfl) h hL hj' 0 ae,br (k:=2) fX (fun _ => rfl) h hL hj' 1 ae⟩⟩⟩
theorem NK {m : MM} {w : World} {fs : List FuM} (hm : MSr w m) (hl : fs.length = m.fn) (hs : ∀ (j : Nat) x y,m.fns[j]? = some x → fs[j]? = some y → ki x y) : ∀ y ∈ fs,J5 y:=fun y hy => by
 obtain ⟨j,hj⟩:=List.getElem?_of_mem hy;have hjl:=aA hj
 obtain ⟨x,hx⟩ : ∃ x,m.fns[j]? = some x:=⟨_,aN (by have:=hm.pf.1; omega)⟩
 have h1:=hs j x y hx hj;have h2:=hm.fx x (List.mem_of_getElem? hx)
 refine ⟨by rw [h1.2.2.1]; exact h2.2.1,fun z hz => ?_⟩
 obtain ⟨i,hi⟩:=List.getElem?_of_mem hz;have hil:=aA hi
 obtain ⟨a,ha⟩ : ∃ a,x.2.2.2[i]? = some a:=⟨_,aN (by have:=h1.2.2.2.1; omega)⟩
 have h3:=h1.2.2.2.2 i a z ha hi;unfold H7;rw [h3.2.2.1];exact (h2.2.2 a (List.mem_of_getElem? ha)).2
theorem OS {m : MM} {w : World} {ds : List DaM} (hm : MSr w m) (hl : ds.length = m.dn) (hs : ∀ (j : Nat) x y,m.data[j]? = some x → ds[j]? = some y → kY x y) : ∀ y ∈ ds,FN y:=fun y hy => by
 obtain ⟨j,hj⟩:=List.getElem?_of_mem hy;have hjl:=aA hj
 obtain ⟨x,hx⟩ : ∃ x,m.data[j]? = some x:=⟨_,aN (by have:=hm.pd.1; omega)⟩
 have h1:=hs j x y hx hj;unfold FN;rw [h1.2.1];exact (hm.dx x (List.mem_of_getElem? hx)).2
theorem Gk (TB : Nat) {m : MM} {base : Nat} {w : World} {BT BH BG BF BD BE : Nat} {fs : List FuM} {ds : List DaM} (h : MWd m base w BT BH BG BF BD BE fs ds) (hm : MSr w m) (ht : eW TB w) (hTB : TB ≤ w.heap.size) :
  Calls Tryz.prog 14 #[.agg (mV (wMM m BT BH BG BF BD BE fs ds))] w fun e w' => e = .returned (.bool true) ∧ Below w.heap.size w w':=by
 have HH:=hid (fun (W : World) (hb : Below w.heap.size w W) => h.later hb)
 have HM:=hid (fun (W : World) (hb : Below w.heap.size w W) => hm.later hb)
 have HT:=hid (fun (W : World) (hb : Below w.heap.size w W) => (⟨ht.later (hb.mono hTB),Nat.le_trans hTB hb.size⟩ : eW TB W ∧ TB ≤ W.heap.size))
 have B0:=ak w (bg (some ⟨BT,0,none⟩) m.tn (m.tn + 64) (some ⟨BH,0,none⟩) m.hn (m.hn + 64) (some ⟨BG,0,none⟩) m.gn (m.gn + 64) m.fi m.mo (some ⟨BF,0,none⟩) m.fn (m.fn + 64) (some ⟨BD,0,none⟩) m.dn (m.dn + 64) (some ⟨BE,0,none⟩) m.en (m.en + 64));have b0:=heap_alloc_new w (bg (some ⟨BT,0,none⟩) m.tn (m.tn + 64) (some ⟨BH,0,none⟩) m.hn (m.hn + 64) (some ⟨BG,0,none⟩) m.gn (m.gn + 64) m.fi m.mo (some ⟨BF,0,none⟩) m.fn (m.fn + 64) (some ⟨BD,0,none⟩) m.dn (m.dn + 64) (some ⟨BE,0,none⟩) m.en (m.en + 64))
 have HX:=hid (fun (W : World) (hb : Below (w.alloc (bg (some ⟨BT,0,none⟩) m.tn (m.tn + 64) (some ⟨BH,0,none⟩) m.hn (m.hn + 64) (some ⟨BG,0,none⟩) m.gn (m.gn + 64) m.fi m.mo (some ⟨BF,0,none⟩) m.fn (m.fn + 64) (some ⟨BD,0,none⟩) m.dn (m.dn + 64) (some ⟨BE,0,none⟩) m.en (m.en + 64))).heap.size (w.alloc (bg (some ⟨BT,0,none⟩) m.tn (m.tn + 64) (some ⟨BH,0,none⟩) m.hn (m.hn + 64) (some ⟨BG,0,none⟩) m.gn (m.gn + 64) m.fi m.mo (some ⟨BF,0,none⟩) m.fn (m.fn + 64) (some ⟨BD,0,none⟩) m.dn (m.dn + 64) (some ⟨BE,0,none⟩) m.en (m.en + 64))) W) => (⟨ai hb (ag b0),ai hb (ag b0),ai hb (ag b0),ai hb (ag b0),ai hb (ag b0),ai hb (ag b0),ai hb (ag b0),ai hb (ag b0)⟩ : W.cell? ⟨w.heap.size,0,none⟩ = some (.slice (some ⟨BT,0,none⟩) m.tn (m.tn + 64)) ∧ W.cell? ⟨w.heap.size,1,none⟩ = some (.slice (some ⟨BH,0,none⟩) m.hn (m.hn + 64)) ∧ W.cell? ⟨w.heap.size,2,none⟩ = some (.slice (some ⟨BG,0,none⟩) m.gn (m.gn + 64)) ∧ W.cell? ⟨w.heap.size,3,none⟩ = some (.int .i64 m.fi) ∧ W.cell? ⟨w.heap.size,4,none⟩ = some (.int .i64 m.mo) ∧ W.cell? ⟨w.heap.size,5,none⟩ = some (.slice (some ⟨BF,0,none⟩) m.fn (m.fn + 64)) ∧ W.cell? ⟨w.heap.size,6,none⟩ = some (.slice (some ⟨BD,0,none⟩) m.dn (m.dn + 64)) ∧ W.cell? ⟨w.heap.size,7,none⟩ = some (.slice (some ⟨BE,0,none⟩) m.en (m.en + 64))))
 obtain ⟨m0,m1,m2,m3,m4,m5,m6,m7⟩:=HX.out _ (Below.refl _ _);have HB0:=hid B0;have HBX:=hid (Below.refl (w.alloc (bg (some ⟨BT,0,none⟩) m.tn (m.tn + 64) (some ⟨BH,0,none⟩) m.hn (m.hn + 64) (some ⟨BG,0,none⟩) m.gn (m.gn + 64) m.fi m.mo (some ⟨BF,0,none⟩) m.fn (m.fn + 64) (some ⟨BD,0,none⟩) m.dn (m.dn + 64) (some ⟨BE,0,none⟩) m.en (m.en + 64))).heap.size (w.alloc (bg (some ⟨BT,0,none⟩) m.tn (m.tn + 64) (some ⟨BH,0,none⟩) m.hn (m.hn + 64) (some ⟨BG,0,none⟩) m.gn (m.gn + 64) m.fi m.mo (some ⟨BF,0,none⟩) m.fn (m.fn + 64) (some ⟨BD,0,none⟩) m.dn (m.dn + 64) (some ⟨BE,0,none⟩) m.en (m.en + 64))));have BFU:=hid (NK hm h.fl h.fs);have BDA:=hid (OS hm h.dl h.ds);clear h hm ht B0 b0
 show Calls Tryz.prog 14 #[.agg #[.slice (some ⟨BT,0,none⟩) m.tn (m.tn + 64),.slice (some ⟨BH,0,none⟩) m.hn (m.hn + 64),.slice (some ⟨BG,0,none⟩) m.gn (m.gn + 64),.int .i64 m.fi,.int .i64 m.mo,.slice (some ⟨BF,0,none⟩) m.fn (m.fn + 64),.slice (some ⟨BD,0,none⟩) m.dn (m.dn + 64),.slice (some ⟨BE,0,none⟩) m.en (m.en + 64)]] w _
 go_enter Tryz.func14,Tryz.ntmps14
 go_wp2_with fail;refine (Kb TB base BT m.tn m.types _ (HM.out _ HB0.out).pt.1 xS (HT.out _ HB0.out).1 (HT.out _ HB0.out).2 (HH.out _ HB0.out).rT).mono ?_;rintro e w1 ⟨rfl,hb⟩;have HB1:=hid (HB0.out.trans (hb.mono HB0.out.size));have HBX:=hid (HBX.out.trans (hb.mono HBX.out.size));obtain ⟨m0,m1,m2,m3,m4,m5,m6,m7⟩:=HX.out _ HBX.out;clear hb;go_wp2_with fail;refine (BJ 0 base BH m.hn m.hosts _ (HM.out _ HB1.out).ph.1 xe (HH.out _ HB1.out).rH).mono ?_;rintro e w2 ⟨rfl,hb⟩;have HB2:=hid (HB1.out.trans (hb.mono HB1.out.size));have HBX:=hid (HBX.out.trans (hb.mono HBX.out.size));obtain ⟨m0,m1,m2,m3,m4,m5,m6,m7⟩:=HX.out _ HBX.out;clear hb;go_wp2_with fail;refine (JB 0 base BG m.gn m.globals _ (HM.out _ HB2.out).pg.1 xh (HH.out _ HB2.out).rG).mono ?_;rintro e w3 ⟨rfl,hb⟩;have HB3:=hid (HB2.out.trans (hb.mono HB2.out.size));have HBX:=hid (HBX.out.trans (hb.mono HBX.out.size));obtain ⟨m0,m1,m2,m3,m4,m5,m6,m7⟩:=HX.out _ HBX.out;clear hb;go_wp2_with fail;refine (Ko base base BF m.fn fs _ (HH.out _ HB3.out).fl (HM.out _ HB3.out).fn (HH.out _ HB3.out).rF (HH.out _ HB3.out).wF BFU.out).mono ?_;rintro e w4 ⟨rfl,hb⟩;have HB4:=hid (HB3.out.trans (hb.mono HB3.out.size));have HBX:=hid (HBX.out.trans (hb.mono HBX.out.size));obtain ⟨m0,m1,m2,m3,m4,m5,m6,m7⟩:=HX.out _ HBX.out;clear hb;go_wp2_with fail;refine (JZ base base BD m.dn ds _ (HH.out _ HB4.out).dl (HM.out _ HB4.out).dn (HH.out _ HB4.out).rD (HH.out _ HB4.out).wD BDA.out).mono ?_;rintro e w5 ⟨rfl,hb⟩;have HB5:=hid (HB4.out.trans (hb.mono HB4.out.size));have HBX:=hid (HBX.out.trans (hb.mono HBX.out.size));obtain ⟨m0,m1,m2,m3,m4,m5,m6,m7⟩:=HX.out _ HBX.out;clear hb;go_wp2_with fail;refine (JT TB base BE m.en m.exps _ (HM.out _ HB5.out).pe.1 zt (HT.out _ HB5.out).1 (HT.out _ HB5.out).2 (HH.out _ HB5.out).rE).mono ?_;rintro e w6 ⟨rfl,hb⟩;have HB6:=hid (HB5.out.trans (hb.mono HB5.out.size));have HBX:=hid (HBX.out.trans (hb.mono HBX.out.size));obtain ⟨m0,m1,m2,m3,m4,m5,m6,m7⟩:=HX.out _ HBX.out;clear hb;go_wp2_with fail;go_ret
 exact ⟨rfl,HB6.out⟩
theorem NS {m : MM} {base : Nat} {w : World} {BT BH BG BF BD BE : Nat} {fs : List FuM} {ds : List DaM} (h : MWd m base w BT BH BG BF BD BE fs ds) (hm : MSr w m) :
  Calls Tryz.prog 13 #[.agg (mV (wMM m BT BH BG BF BD BE fs ds)),.agg (mV m)] w fun e w' => e = .returned (.bool true) ∧ Below w.heap.size w w':=by
 have HH:=hid (fun (W : World) (hb : Below w.heap.size w W) => h.later hb)
 have HM:=hid (fun (W : World) (hb : Below w.heap.size w W) => hm.later hb)
 have B1:=ak w (bg (some ⟨BT,0,none⟩) m.tn (m.tn + 64) (some ⟨BH,0,none⟩) m.hn (m.hn + 64) (some ⟨BG,0,none⟩) m.gn (m.gn + 64) m.fi m.mo (some ⟨BF,0,none⟩) m.fn (m.fn + 64) (some ⟨BD,0,none⟩) m.dn (m.dn + 64) (some ⟨BE,0,none⟩) m.en (m.en + 64));have B2:=ak (w.alloc (bg (some ⟨BT,0,none⟩) m.tn (m.tn + 64) (some ⟨BH,0,none⟩) m.hn (m.hn + 64) (some ⟨BG,0,none⟩) m.gn (m.gn + 64) m.fi m.mo (some ⟨BF,0,none⟩) m.fn (m.fn + 64) (some ⟨BD,0,none⟩) m.dn (m.dn + 64) (some ⟨BE,0,none⟩) m.en (m.en + 64))) (bg m.ta m.tn m.tc m.ha m.hn m.hc m.ga m.gn m.gc m.fi m.mo m.fa m.fn m.fc m.da m.dn m.dc m.ea m.en m.ec);have b1:=ar B2 (heap_alloc_new w (bg (some ⟨BT,0,none⟩) m.tn (m.tn + 64) (some ⟨BH,0,none⟩) m.hn (m.hn + 64) (some ⟨BG,0,none⟩) m.gn (m.gn + 64) m.fi m.mo (some ⟨BF,0,none⟩) m.fn (m.fn + 64) (some ⟨BD,0,none⟩) m.dn (m.dn + 64) (some ⟨BE,0,none⟩) m.en (m.en + 64)));have b2 : ((w.alloc (bg (some ⟨BT,0,none⟩) m.tn (m.tn + 64) (some ⟨BH,0,none⟩) m.hn (m.hn + 64) (some ⟨BG,0,none⟩) m.gn (m.gn + 64) m.fi m.mo (some ⟨BF,0,none⟩) m.fn (m.fn + 64) (some ⟨BD,0,none⟩) m.dn (m.dn + 64) (some ⟨BE,0,none⟩) m.en (m.en + 64))).alloc (bg m.ta m.tn m.tc m.ha m.hn m.hc m.ga m.gn m.gc m.fi m.mo m.fa m.fn m.fc m.da m.dn m.dc m.ea m.en m.ec)).heap[w.heap.size + 1]? = some (bg m.ta m.tn m.tc m.ha m.hn m.hc m.ga m.gn m.gc m.fi m.mo m.fa m.fn m.fc m.da m.dn m.dc m.ea m.en m.ec):=jm aq;have B0 : Below w.heap.size w ((w.alloc (bg (some ⟨BT,0,none⟩) m.tn (m.tn + 64) (some ⟨BH,0,none⟩) m.hn (m.hn + 64) (some ⟨BG,0,none⟩) m.gn (m.gn + 64) m.fi m.mo (some ⟨BF,0,none⟩) m.fn (m.fn + 64) (some ⟨BD,0,none⟩) m.dn (m.dn + 64) (some ⟨BE,0,none⟩) m.en (m.en + 64))).alloc (bg m.ta m.tn m.tc m.ha m.hn m.hc m.ga m.gn m.gc m.fi m.mo m.fa m.fn m.fc m.da m.dn m.dc m.ea m.en m.ec)):=B1.trans (B2.mono aq)
 have HX:=hid (fun (W : World) (hb : Below ((w.alloc (bg (some ⟨BT,0,none⟩) m.tn (m.tn + 64) (some ⟨BH,0,none⟩) m.hn (m.hn + 64) (some ⟨BG,0,none⟩) m.gn (m.gn + 64) m.fi m.mo (some ⟨BF,0,none⟩) m.fn (m.fn + 64) (some ⟨BD,0,none⟩) m.dn (m.dn + 64) (some ⟨BE,0,none⟩) m.en (m.en + 64))).alloc (bg m.ta m.tn m.tc m.ha m.hn m.hc m.ga m.gn m.gc m.fi m.mo m.fa m.fn m.fc m.da m.dn m.dc m.ea m.en m.ec)).heap.size ((w.alloc (bg (some ⟨BT,0,none⟩) m.tn (m.tn + 64) (some ⟨BH,0,none⟩) m.hn (m.hn + 64) (some ⟨BG,0,none⟩) m.gn (m.gn + 64) m.fi m.mo (some ⟨BF,0,none⟩) m.fn (m.fn + 64) (some ⟨BD,0,none⟩) m.dn (m.dn + 64) (some ⟨BE,0,none⟩) m.en (m.en + 64))).alloc (bg m.ta m.tn m.tc m.ha m.hn m.hc m.ga m.gn m.gc m.fi m.mo m.fa m.fn m.fc m.da m.dn m.dc m.ea m.en m.ec)) W) => (⟨ai hb (ag b1),ai hb (ag b1),ai hb (ag b1),ai hb (ag b1),ai hb (ag b1),ai hb (ag b1),ai hb (ag b1),ai hb (ag b1),ai hb (ag b2),ai hb (ag b2),ai hb (ag b2),ai hb (ag b2),ai hb (ag b2),ai hb (ag b2),ai hb (ag b2),ai hb (ag b2)⟩ : W.cell? ⟨w.heap.size,0,none⟩ = some (.slice (some ⟨BT,0,none⟩) m.tn (m.tn + 64)) ∧ W.cell? ⟨w.heap.size,1,none⟩ = some (.slice (some ⟨BH,0,none⟩) m.hn (m.hn + 64)) ∧ W.cell? ⟨w.heap.size,2,none⟩ = some (.slice (some ⟨BG,0,none⟩) m.gn (m.gn + 64)) ∧ W.cell? ⟨w.heap.size,3,none⟩ = some (.int .i64 m.fi) ∧ W.cell? ⟨w.heap.size,4,none⟩ = some (.int .i64 m.mo) ∧ W.cell? ⟨w.heap.size,5,none⟩ = some (.slice (some ⟨BF,0,none⟩) m.fn (m.fn + 64)) ∧ W.cell? ⟨w.heap.size,6,none⟩ = some (.slice (some ⟨BD,0,none⟩) m.dn (m.dn + 64)) ∧ W.cell? ⟨w.heap.size,7,none⟩ = some (.slice (some ⟨BE,0,none⟩) m.en (m.en + 64)) ∧ W.cell? ⟨w.heap.size + 1,0,none⟩ = some (.slice m.ta m.tn m.tc) ∧ W.cell? ⟨w.heap.size + 1,1,none⟩ = some (.slice m.ha m.hn m.hc) ∧ W.cell? ⟨w.heap.size + 1,2,none⟩ = some (.slice m.ga m.gn m.gc) ∧ W.cell? ⟨w.heap.size + 1,3,none⟩ = some (.int .i64 m.fi) ∧ W.cell? ⟨w.heap.size + 1,4,none⟩ = some (.int .i64 m.mo) ∧ W.cell? ⟨w.heap.size + 1,5,none⟩ = some (.slice m.fa m.fn m.fc) ∧ W.cell? ⟨w.heap.size + 1,6,none⟩ = some (.slice m.da m.dn m.dc) ∧ W.cell? ⟨w.heap.size + 1,7,none⟩ = some (.slice m.ea m.en m.ec)))
 obtain ⟨m0,m1,m2,m3,m4,m5,m6,m7,k0,k1,k2,k3,k4,k5,k6,k7⟩:=HX.out _ (Below.refl _ _);have HB0:=hid B0;have HBX:=hid (Below.refl ((w.alloc (bg (some ⟨BT,0,none⟩) m.tn (m.tn + 64) (some ⟨BH,0,none⟩) m.hn (m.hn + 64) (some ⟨BG,0,none⟩) m.gn (m.gn + 64) m.fi m.mo (some ⟨BF,0,none⟩) m.fn (m.fn + 64) (some ⟨BD,0,none⟩) m.dn (m.dn + 64) (some ⟨BE,0,none⟩) m.en (m.en + 64))).alloc (bg m.ta m.tn m.tc m.ha m.hn m.hc m.ga m.gn m.gc m.fi m.mo m.fa m.fn m.fc m.da m.dn m.dc m.ea m.en m.ec)).heap.size ((w.alloc (bg (some ⟨BT,0,none⟩) m.tn (m.tn + 64) (some ⟨BH,0,none⟩) m.hn (m.hn + 64) (some ⟨BG,0,none⟩) m.gn (m.gn + 64) m.fi m.mo (some ⟨BF,0,none⟩) m.fn (m.fn + 64) (some ⟨BD,0,none⟩) m.dn (m.dn + 64) (some ⟨BE,0,none⟩) m.en (m.en + 64))).alloc (bg m.ta m.tn m.tc m.ha m.hn m.hc m.ga m.gn m.gc m.fi m.mo m.fa m.fn m.fc m.da m.dn m.dc m.ea m.en m.ec)));have f1 : (m.fi == m.fi) = true:=aq;have f2 : (m.mo == m.mo) = true:=aq;clear h hm B0 B1 B2 b1 b2
 show Calls Tryz.prog 13 #[.agg #[.slice (some ⟨BT,0,none⟩) m.tn (m.tn + 64),.slice (some ⟨BH,0,none⟩) m.hn (m.hn + 64),.slice (some ⟨BG,0,none⟩) m.gn (m.gn + 64),.int .i64 m.fi,.int .i64 m.mo,.slice (some ⟨BF,0,none⟩) m.fn (m.fn + 64),.slice (some ⟨BD,0,none⟩) m.dn (m.dn + 64),.slice (some ⟨BE,0,none⟩) m.en (m.en + 64)],.agg #[.slice m.ta m.tn m.tc,.slice m.ha m.hn m.hc,.slice m.ga m.gn m.gc,.int .i64 m.fi,.int .i64 m.mo,.slice m.fa m.fn m.fc,.slice m.da m.dn m.dc,.slice m.ea m.en m.ec]] w _
 go_enter Tryz.func13,Tryz.ntmps13
 go_wp2_with fail;refine (Oh (some ⟨BT,0,none⟩) m.ta m.tn (m.tn + 64) m.tc m.types _ (Lt (HH.out _ HB0.out).rT (HM.out _ HB0.out).pt.1) (HM.out _ HB0.out).pt xS).mono ?_;rintro e w1 ⟨rfl,hb⟩;have HB1:=hid (HB0.out.trans (hb.mono HB0.out.size));have HBX:=hid (HBX.out.trans (hb.mono HBX.out.size));obtain ⟨m0,m1,m2,m3,m4,m5,m6,m7,k0,k1,k2,k3,k4,k5,k6,k7⟩:=HX.out _ HBX.out;clear hb;go_wp2_with fail;refine (IV (some ⟨BH,0,none⟩) m.ha m.hn (m.hn + 64) m.hc m.hosts _ (FJ (HH.out _ HB1.out).rH (HM.out _ HB1.out).ph.1) (HM.out _ HB1.out).ph xe).mono ?_;rintro e w2 ⟨rfl,hb⟩;have HB2:=hid (HB1.out.trans (hb.mono HB1.out.size));have HBX:=hid (HBX.out.trans (hb.mono HBX.out.size));obtain ⟨m0,m1,m2,m3,m4,m5,m6,m7,k0,k1,k2,k3,k4,k5,k6,k7⟩:=HX.out _ HBX.out;clear hb;go_wp2_with fail;refine (OJ (some ⟨BG,0,none⟩) m.ga m.gn (m.gn + 64) m.gc m.globals _ (MS (HH.out _ HB2.out).rG (HM.out _ HB2.out).pg.1) (HM.out _ HB2.out).pg xh).mono ?_;rintro e w3 ⟨rfl,hb⟩;have HB3:=hid (HB2.out.trans (hb.mono HB2.out.size));have HBX:=hid (HBX.out.trans (hb.mono HBX.out.size));obtain ⟨m0,m1,m2,m3,m4,m5,m6,m7,k0,k1,k2,k3,k4,k5,k6,k7⟩:=HX.out _ HBX.out;clear hb;go_wp2_with fail;refine (PY base BF m.fn (m.fn + 64) m.fa m.fc fs m.fns _ (HH.out _ HB3.out).fl (HM.out _ HB3.out).fn (HH.out _ HB3.out).rF (HH.out _ HB3.out).wF (HM.out _ HB3.out).pf (HM.out _ HB3.out).fx (HH.out _ HB3.out).fs).mono ?_;rintro e w4 ⟨rfl,hb⟩;have HB4:=hid (HB3.out.trans (hb.mono HB3.out.size));have HBX:=hid (HBX.out.trans (hb.mono HBX.out.size));obtain ⟨m0,m1,m2,m3,m4,m5,m6,m7,k0,k1,k2,k3,k4,k5,k6,k7⟩:=HX.out _ HBX.out;clear hb;go_wp2_with fail;refine (PH base BD m.dn (m.dn + 64) m.da m.dc ds m.data _ (HH.out _ HB4.out).dl (HM.out _ HB4.out).dn (HH.out _ HB4.out).rD (HH.out _ HB4.out).wD (HM.out _ HB4.out).pd (HM.out _ HB4.out).dx (HH.out _ HB4.out).ds).mono ?_;rintro e w5 ⟨rfl,hb⟩;have HB5:=hid (HB4.out.trans (hb.mono HB4.out.size));have HBX:=hid (HBX.out.trans (hb.mono HBX.out.size))
 obtain ⟨m0,m1,m2,m3,m4,m5,m6,m7,k0,k1,k2,k3,k4,k5,k6,k7⟩:=HX.out _ HBX.out;clear hb;go_wp2_with fail;refine (Oa (some ⟨BE,0,none⟩) m.ea m.en (m.en + 64) m.ec m.exps _ (Lu (HH.out _ HB5.out).rE (HM.out _ HB5.out).pe.1) (HM.out _ HB5.out).pe zt).mono ?_;exact Gc
def rdAq (mp : Value) (m : MM) (ln pt : Int) : Array Value:=#[mp,.slice m.ta m.tn m.tc,.slice m.ha m.hn m.hc,.slice m.ga m.gn m.gc,.int .i64 m.fi,.int .i64 m.mo,.slice m.fa m.fn m.fc,.slice m.da m.dn m.dc,.slice m.ea m.en m.ec,.int .i64 ln,.int .i64 pt]
structure FnO (w : World) (base : Nat) (x : FuM) : Prop where
 code : w.ownsRow base 75 3 (.slice x.2.2.1.1 x.2.2.1.2.1 x.2.2.1.2.2) x.2.2.1.2.1 (x.2.2.2.flatMap cM)
 lab : ∀ y ∈ x.2.2.2,w.ownsRow base 3 1 (.slice y.2.2.1.1 y.2.2.1.2.1 y.2.2.1.2.2) y.2.2.1.2.1 (y.2.2.2.flatMap dR)
def fcb (x : FuM) : Option Nat:=(Value.slice x.2.2.1.1 x.2.2.1.2.1 x.2.2.1.2.2).ownBlock
structure RQ (base R : Nat) (mp : Value) (m : MM) (ln pt : Int) (w : World) : Prop where
 blk : w.heap[R]? = some (.cells (rdAq mp m ln pt) 126)
 low : R < base
 bw : base ≤ w.heap.size
 rt : w.ownsRow base 73 2 (.slice m.ta m.tn m.tc) m.tn (m.types.flatMap dP)
 rh : w.ownsRow base 3 1 (.slice m.ha m.hn m.hc) m.hn (m.hosts.flatMap dR)
 rg : w.ownsRow base 102 3 (.slice m.ga m.gn m.gc) m.gn (m.globals.flatMap fF)
 rf : w.ownsRow base 78 3 (.slice m.fa m.fn m.fc) m.fn (m.fns.flatMap cm)
 rd : w.ownsRow base 81 2 (.slice m.da m.dn m.dc) m.dn (m.data.flatMap fY)
 re : w.ownsRow base 83 2 (.slice m.ea m.en m.ec) m.en (m.exps.flatMap fX)
 fo : ∀ x ∈ m.fns,FnO w base x
 fd : ∀ (i j : Nat) x y k,m.fns[i]? = some x → m.fns[j]? = some y → i ≠ j → fcb x = some k → fcb y ≠ some k
 dd : ∀ x ∈ m.data,w.ownsRow base 5 1 (.slice x.2.1.1 x.2.1.2.1 x.2.1.2.2) x.2.1.2.1 (x.2.2.flatMap iw)
 nf : pt < 6 → m.fns = []
abbrev KR (base R : Nat) (w w' : World) : Prop:=aJ (fun k => k = R ∨ base ≤ k) w w'
theorem iD {w : World} {base e k n : Nat} {v : Value} {xs : List Value} (h : w.ownsRow base e k v n xs) {b : Nat} (hb : v.ownBlock = some b) : base ≤ b ∧ ∃ cur,w.heap[b]? = some (.cells cur e (0,0)):=by
 rcases h.2 with ⟨rfl,_⟩ | ⟨g,cap,cur,rfl,h2,h3,_⟩
 ·simp [Value.ownBlock] at hb
 ·simp only [Value.ownBlock,Option.some.injEq] at hb
  subst hb;exact ⟨h2,cur,h3⟩
theorem gy {w w' : World} {base e k n : Nat} {v : Value} {xs : List Value} (h : w.ownsRow base e k v n xs) (hb : Below w.heap.size w w') : w'.ownsRow base e k v n xs :=
 aW (S:=fun _ => False) h ⟨hb.os,hb.tape,hb.output,hb.size,fun k hk _ => hb.block k hk⟩ (fun _ _ => id)
theorem FnO.later {w w' : World} {base : Nat} {x : FuM} (h : FnO w base x) (hb : Below w.heap.size w w') : FnO w' base x:=⟨gy h.code hb,fun y hy => gy (h.lab y hy) hb⟩
theorem RQ.later {base R : Nat} {mp : Value} {m : MM} {ln pt : Int} {w w' : World} (h : RQ base R mp m ln pt w) (hb : Below w.heap.size w w') : RQ base R mp m ln pt w' :=
 ⟨ar hb h.blk,h.low,Nat.le_trans h.bw hb.size,gy h.rt hb,gy h.rh hb,gy h.rg hb,gy h.rf hb,gy h.rd hb,gy h.re hb,fun x hx => (h.fo x hx).later hb,h.fd,fun x hx => gy (h.dd x hx) hb,h.nf⟩
theorem bC {w : World} {base e k n R o : Nat} {v u : Value} {xs : List Value} (h : w.ownsRow base e k v n xs) (hR : R < base) : (w.setCell ⟨R,o,none⟩ u).ownsRow base e k v n xs :=
 aW (S:=fun k => k = R) h (aw w R o u) (fun b hb e => by have:=(iD h hb).1; omega)
theorem RQ.set {base R : Nat} {mp : Value} {m m' : MM} {ln pt ln' pt' : Int} {w : World} (h : RQ base R mp m ln pt w) (o : Nat) (u : Value) (hA : (rdAq mp m ln pt).setIfInBounds o u = rdAq mp m' ln' pt')
  (e1 : m'.ta = m.ta ∧ m'.tn = m.tn ∧ m'.tc = m.tc ∧ m'.types = m.types) (e2 : m'.ha = m.ha ∧ m'.hn = m.hn ∧ m'.hc = m.hc ∧ m'.hosts = m.hosts) (e3 : m'.ga = m.ga ∧ m'.gn = m.gn ∧ m'.gc = m.gc ∧ m'.globals = m.globals) (e4 : m'.fa = m.fa ∧ m'.fn = m.fn ∧ m'.fc = m.fc ∧ m'.fns = m.fns) (e5 : m'.da = m.da ∧ m'.dn = m.dn ∧ m'.dc = m.dc ∧ m'.data = m.data) (e6 : m'.ea = m.ea ∧ m'.en = m.en ∧ m'.ec = m.ec ∧ m'.exps = m.exps)
  (hp : pt' < 6 → pt < 6) : RQ base R mp m' ln' pt' (w.setCell ⟨R,o,none⟩ u):=by
 obtain ⟨a1,a2,a3,a4⟩:=e1;obtain ⟨b1,b2,b3,b4⟩:=e2;obtain ⟨c1,c2,c3,c4⟩:=e3;obtain ⟨d1,d2,d3,d4⟩:=e4;obtain ⟨f1,f2,f3,f4⟩:=e5;obtain ⟨g1,g2,g3,g4⟩:=e6
 refine ⟨?_,h.low,by simpa [World.setCell] using h.bw,?_,?_,?_,?_,?_,?_,?_,?_,?_,?_⟩
 ·rw [bJ h.blk,hA]
 ·rw [a1,a2,a3,a4]; exact bC h.rt h.low
 ·rw [b1,b2,b3,b4]; exact bC h.rh h.low
 ·rw [c1,c2,c3,c4]; exact bC h.rg h.low
 ·rw [d1,d2,d3,d4]; exact bC h.rf h.low
 ·rw [f1,f2,f3,f4]; exact bC h.rd h.low
 ·rw [g1,g2,g3,g4]; exact bC h.re h.low
 ·rw [d4]; exact fun x hx => ⟨bC (h.fo x hx).code h.low,fun y hy => bC ((h.fo x hx).lab y hy) h.low⟩
 ·rw [d4]; exact h.fd
 ·rw [f4]; exact fun x hx => bC (h.dd x hx) h.low
 ·rw [d4]; exact fun hx => h.nf (hp hx)
theorem RQ.part {base R : Nat} {mp : Value} {m : MM} {ln pt : Int} {w : World} (h : RQ base R mp m ln pt w) (q : Int) (hq : pt ≤ q) : RQ base R mp m ln q (w.setCell ⟨R,10,none⟩ (.int .i64 q)) :=
 h.set 10 _ rfl ⟨rfl,rfl,rfl,rfl⟩ ⟨rfl,rfl,rfl,rfl⟩ ⟨rfl,rfl,rfl,rfl⟩ ⟨rfl,rfl,rfl,rfl⟩ ⟨rfl,rfl,rfl,rfl⟩ ⟨rfl,rfl,rfl,rfl⟩ (fun x => ae)
theorem RQ.line {base R : Nat} {mp : Value} {m : MM} {ln pt : Int} {w : World} (h : RQ base R mp m ln pt w) (l : Int) : RQ base R mp m l pt (w.setCell ⟨R,9,none⟩ (.int .i64 l)) :=
 h.set 9 _ rfl ⟨rfl,rfl,rfl,rfl⟩ ⟨rfl,rfl,rfl,rfl⟩ ⟨rfl,rfl,rfl,rfl⟩ ⟨rfl,rfl,rfl,rfl⟩ ⟨rfl,rfl,rfl,rfl⟩ ⟨rfl,rfl,rfl,rfl⟩ id
theorem RQ.cells {base R : Nat} {mp : Value} {m : MM} {ln pt : Int} {w : World} (h : RQ base R mp m ln pt w) (i : Nat) : w.cell? ⟨R,i,none⟩ = (rdAq mp m ln pt)[i]?:=ag h.blk
theorem RQ.free {base R : Nat} {mp : Value} {m : MM} {ln pt : Int} {w : World} (h : RQ base R mp m ln pt w) (i : Nat) : w.frozen? ⟨R,i,none⟩ = false:=aU h.blk
theorem KR.set (base R o : Nat) (w : World) (u : Value) : KR base R w (w.setCell ⟨R,o,none⟩ u):=by
 have h:=aw w R o u
 exact ⟨h.os,h.tape,h.output,h.size,fun k hk hs => h.block k hk (fun e => hs (.inl e))⟩
theorem KR.later {base R : Nat} {w w' : World} (hb : Below w.heap.size w w') : KR base R w w':=⟨hb.os,hb.tape,hb.output,hb.size,fun k hk _ => hb.block k hk⟩
theorem bA {W w' : World} {base e k n : Nat} {v : Value} {xs : List Value} (h : W.ownsRow base e k v n xs) {u : Value} {base' e' k' n' : Nat} {xs' : List Value} (hu : W.ownsRow base' e' k' u n' xs') (hg : W.grownBy w' u.ownBlock) (he : e ≠ e') : w'.ownsRow base e k v n xs:=by
 refine h.kept hg ?_
 rcases hv : v.ownBlock with _ | b
 ·exact .inl rfl
 ·refine .inr fun hx => ?_
  obtain ⟨_,cur,h1⟩:=iD h hv;obtain ⟨_,cur',h2⟩:=iD hu hx.symm;rw [h1] at h2
  simp only [Option.some.injEq,Obj.cells.injEq] at h2
  exact he h2.2.1
theorem gJ {W w' : World} {base R : Nat} {o : Obj} (h : W.heap[R]? = some o) (hR : R < base) {u : Value} {e' k' n' : Nat} {xs' : List Value} (hu : W.ownsRow base e' k' u n' xs') (hg : W.grownBy w' u.ownBlock) : w'.heap[R]? = some o:=by
 refine (hg.block R (aV h) fun hx => ?_).trans h
 have:=(iD hu hx.symm).1
 omega
theorem KR.grow {W w' : World} {base R : Nat} {u : Value} {e' k' n' : Nat} {xs' : List Value} (hu : W.ownsRow base e' k' u n' xs') (hg : W.grownBy w' u.ownBlock) : KR base R W w' :=
 ⟨hg.os,hg.tape,hg.output,hg.size,fun k hk hs => hg.block k hk fun hx => hs (.inr (iD hu hx.symm).1)⟩
theorem KR.trans {base R : Nat} {w1 w2 w3 : World} (h : KR base R w1 w2) (h' : KR base R w2 w3) : KR base R w1 w3 :=
 ⟨h'.os.trans h.os,h'.tape.trans h.tape,h'.output.trans h.output,Nat.le_trans h.size h'.size,fun k hk hs => (h'.block k (Nat.lt_of_lt_of_le hk h.size) hs).trans (h.block k hk hs)⟩
section
variable {base R : Nat} {mp : Value} {m : MM} {ln pt : Int} {w W w' : World} {g cap : Nat}
theorem RQ.pushT (h : RQ base R mp m ln pt w) (hW : Below w.heap.size w W) (x : Sg) (ho : w'.ownsRow base 73 2 (.slice (some ⟨g,0,none⟩) (m.tn + 1) cap) (m.tn + 1) (m.types.flatMap dP ++ dP x)) (hg : W.grownBy w' (Value.slice m.ta m.tn m.tc).ownBlock) :
  RQ base R mp { m with ta:=some ⟨g,0,none⟩,tn:=m.tn + 1,tc:=cap,types:=m.types ++ [x] } ln pt (w'.setCell ⟨R,1,none⟩ (.slice (some ⟨g,0,none⟩) (m.tn + 1) cap)) ∧ KR base R w (w'.setCell ⟨R,1,none⟩ (.slice (some ⟨g,0,none⟩) (m.tn + 1) cap)):=by
 have hq:=h.later hW;have hu:=hq.rt;have hR:=h.low;refine ⟨⟨?_,hR,?_,?_,?_,?_,?_,?_,?_,?_,?_,?_,?_⟩,((KR.later hW).trans (KR.grow hu hg)).trans (KR.set base R _ w' _)⟩
 ·rw [bJ (gJ hq.blk hR hu hg)]; rfl
 ·exact uC
 ·rw [List.flatMap_append,List.flatMap_singleton]; exact bC ho hR
 ·exact bC (bA hq.rh hu hg av) hR
 ·exact bC (bA hq.rg hu hg av) hR
 ·exact bC (bA hq.rf hu hg av) hR
 ·exact bC (bA hq.rd hu hg av) hR
 ·exact bC (bA hq.re hu hg av) hR
 ·exact fun y hy => ⟨bC (bA (hq.fo y hy).code hu hg av) hR,fun z hz => bC (bA ((hq.fo y hy).lab z hz) hu hg av) hR⟩
 ·exact h.fd
 ·exact fun y hy => bC (bA (hq.dd y hy) hu hg av) hR
 ·exact h.nf
theorem RQ.pushF (h : RQ base R mp m ln pt w) (hW : Below w.heap.size w W) (x : FuM) (hpt : 6 ≤ pt) (hx : x.2.2.1 = (none,0,0) ∧ x.2.2.2 = []) (ho : w'.ownsRow base 78 3 (.slice (some ⟨g,0,none⟩) (m.fn + 1) cap) (m.fn + 1) (m.fns.flatMap cm ++ cm x)) (hg : W.grownBy w' (Value.slice m.fa m.fn m.fc).ownBlock) :
  RQ base R mp { m with fa:=some ⟨g,0,none⟩,fn:=m.fn + 1,fc:=cap,fns:=m.fns ++ [x] } ln pt (w'.setCell ⟨R,6,none⟩ (.slice (some ⟨g,0,none⟩) (m.fn + 1) cap)) ∧ KR base R w (w'.setCell ⟨R,6,none⟩ (.slice (some ⟨g,0,none⟩) (m.fn + 1) cap)):=by
 have hq:=h.later hW;have hu:=hq.rf;have hR:=h.low;refine ⟨⟨?_,hR,?_,?_,?_,?_,?_,?_,?_,?_,?_,?_,?_⟩,((KR.later hW).trans (KR.grow hu hg)).trans (KR.set base R _ w' _)⟩
 ·rw [bJ (gJ hq.blk hR hu hg)]; rfl
 ·exact uC
 ·exact bC (bA hq.rt hu hg av) hR
 ·exact bC (bA hq.rh hu hg av) hR
 ·exact bC (bA hq.rg hu hg av) hR
 ·rw [List.flatMap_append,List.flatMap_singleton]; exact bC ho hR
 ·exact bC (bA hq.rd hu hg av) hR
 ·exact bC (bA hq.re hu hg av) hR
 ·intro y hy
  rcases List.mem_append.1 hy with hy | hy
  ·exact ⟨bC (bA (hq.fo y hy).code hu hg av) hR,fun z hz => bC (bA ((hq.fo y hy).lab z hz) hu hg av) hR⟩
  ·rw [List.mem_singleton] at hy;subst hy;obtain ⟨h1,h2⟩:=hx
   refine ⟨?_,fun z hz => by rw [h2] at hz; cases hz⟩
   rw [h1,h2];exact World.ownsRow_nil _ _ _ _
 ·intro i j y z k hi hj hij hk
  have hnx : fcb x = none:=by unfold fcb; rw [hx.1]; rfl
  rcases Nat.lt_or_ge j m.fns.length with hjl | hjl
  ·have hj' : m.fns[j]? = some z:=by rw [← hj]; exact (List.getElem?_append_left hjl).symm
   rcases Nat.lt_or_ge i m.fns.length with hil | hil
   ·have hi' : m.fns[i]? = some y:=by rw [← hi]; exact (List.getElem?_append_left hil).symm
    exact h.fd i j y z k hi' hj' hij hk
   ·have hi' : [x][i - m.fns.length]? = some y:=by rw [← hi]; exact (List.getElem?_append_right hil).symm
    have:=List.mem_of_getElem? hi'
    rw [List.mem_singleton] at this;subst this;rw [hnx] at hk; cases hk
  ·have hj' : [x][j - m.fns.length]? = some z:=by rw [← hj]; exact (List.getElem?_append_right hjl).symm
   have:=List.mem_of_getElem? hj'
   rw [List.mem_singleton] at this;subst this
   rw [hnx]; simp
 ·exact fun y hy => bC (bA (hq.dd y hy) hu hg av) hR
 ·intro hc; omega
end
def qg (w : World) : Prop:=∃ m,w.cell? ⟨3,0,none⟩ = some (.int .i64 m)
theorem qg.later {w w' : World} {B : Nat} (h : qg w) (hb : Below B w w') (hB : w.heap.size ≤ B) : qg w':=by
 obtain ⟨m,hm⟩:=h
 have:=block_lt_of_cell hm
 exact ⟨m,(hb.cell (by simp at this ⊢; omega)).trans hm⟩
theorem Lv (s : ByteArray) (w : World) (hs : s.size ≤ 1073741824) (hm : qg w) :
  Calls Tryz.prog 217 #[.string s,.string ⟨#[32,45,62,32]⟩] w fun e w' => e = .returned (.tuple #[.string (zm s),.string (xp s),.bool (LK s)]) ∧ Below w.heap.size w w':=by
 obtain ⟨m,hm⟩:=hm
 exact (Tryz.strings_Cut s ⟨#[32,45,62,32]⟩ m w ae hm).mono fun e w' ⟨he,n,hw⟩ => ⟨he,by rw [hw]; exact jc w n⟩
theorem xj (s : ByteArray) (w : World) (hs : s.size ≤ 1073741824) (hm : qg w) :
  Calls Tryz.prog 169 #[.string s] w fun e w' => e = .returned (.tuple #[.agg #[.string (rdP s),.string (rdR s)],.int .i64 (rdE s)]) ∧ Below w.heap.size w w':=by
 obtain ⟨hl,hr⟩:=Dy s;have hb0 : Below w.heap.size w (w.alloc (aS ⟨#[]⟩ ⟨#[]⟩)):=(Below.refl _ _).alloc (Nat.le_refl _) _;have HC:=hid (Lv s (w.alloc (aS ⟨#[]⟩ ⟨#[]⟩)) hs (hm.later hb0 (Nat.le_refl _)))
 go_enter Tryz.func169,Tryz.ntmps169
 go_wp2_with fail;refine HC.out.mono ?_;rintro e w1 ⟨rfl,hb1⟩;go_wp2_with fail;refine (qV (zm s) w1 ae).mono ?_;rintro e w2 ⟨rfl,hb2⟩;go_wp2_with fail;refine (qV (xp s) w2 ae).mono ?_;rintro e w3 ⟨rfl,hb3⟩;have hbb : Below w.heap.size w w3:=((hb0.trans (hb1.mono aq)).trans (hb2.mono qA)).trans (hb3.mono BM);have hba : Below (w.heap.size + 1) (w.alloc (aS ⟨#[]⟩ ⟨#[]⟩)) w3:=(((hb1.mono aq)).trans (hb2.mono qA)).trans (hb3.mono BM)
 have hblk : w3.heap[w.heap.size]? = some (aS ⟨#[]⟩ ⟨#[]⟩):=by
  rw [hba.block w.heap.size ae]; exact heap_alloc_new _ _
 have c0:=ag (i:=0) hblk;have c1:=ag (i:=1) hblk;have f0:=aU (i:=0) hblk;have f1:=aU (i:=1) hblk
 simp at c0 c1
 have HB:=hid hbb;clear hb0 hb1 hb2 hb3 hbb hba hblk HC
 cases h1 : LK s
 ·have hz : rdB s = false:=by simp [rdB,h1]
  exact zx
 ·cases h2 : rsB (zm s)
  ·have hz : rdB s = false:=by simp [rdB,h1,h2]
   exact zx
  ·cases h3 : rsB (xp s)
   ·have hz : rdB s = false:=by simp [rdB,h1,h2,h3]
    exact zx
   ·have hz : rdB s = true:=by simp [rdB,h1,h2,h3]
    go_wp2
    (try simp only [Exit.inBlock,Exit.then])
    refine bodyPost_ret (v:=.tuple #[.agg #[.string (rsV (zm s)),.string (rsV (xp s))],.int .i64 0]) ?_ rfl ⟨by simp [rdP,rdR,rdE,hz],?_⟩
    ·exact kN
    ·exact (HB.out.setCell aq _).setCell aq _
structure iG (B : Nat) (w : World) : Prop where
 tens : eW B w
 errs : rx B w
 kinds : aX w
 mx : qg w
 b3 : 3 < B
 bw : B ≤ w.heap.size
theorem iG.later {B : Nat} {w w' : World} (h : iG B w) (hb : Below B w w') : iG B w' :=
 ⟨h.tens.later hb,h.errs.later hb,h.kinds.later hb (Nat.lt_of_le_of_lt (Nat.zero_le 3) h.b3),(by obtain ⟨m,hm⟩:=h.mx; exact ⟨m,(hb.cell (by exact h.b3)).trans hm⟩),h.b3,Nat.le_trans h.bw hb.size⟩
theorem KR.below {B base R : Nat} {w w' : World} (h : KR base R w w') (hR : B ≤ R) (hb : B ≤ base) (hw : B ≤ w.heap.size) : Below B w w' :=
 ⟨h.os,h.tape,h.output,h.size,fun k hk => h.block k ae (fun hs => by rcases hs with rfl | hs <;> omega)⟩
structure Wds (w : World) (A n c : Nat) (ws : List ByteArray) : Prop where
 len : ws.length = n
 lt : A < w.heap.size
 cap : n ≤ c
 at_ : ∀ (j : Nat) x,ws[j]? = some x → w.cell? ⟨A,0 + j,none⟩ = some (.string x)
 sz : ∀ x ∈ ws,x.size ≤ 2097152
 few : n ≤ 2097152
theorem Wds.later {w w' : World} {A n c : Nat} {ws : List ByteArray} (h : Wds w A n c ws) (hb : Below w.heap.size w w') : Wds w' A n c ws :=
 ⟨h.len,Nat.lt_of_lt_of_le h.lt hb.size,h.cap,fun j x hj => ai hb (h.at_ j x hj),h.sz,h.few⟩
end Go.Proofs.YtheefojaplnnoaaGreatDoor
