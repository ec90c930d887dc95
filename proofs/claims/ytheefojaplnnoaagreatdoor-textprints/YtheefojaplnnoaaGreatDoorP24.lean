/-
  Texts Qi.
-/
import Derived.Test.YtheefojaplnnoaaGreatDoorP00
import Derived.Test.YtheefojaplnnoaaGreatDoorP23
set_option linter.unusedVariables false
set_option maxRecDepth 100000
set_option maxHeartbeats 16000000
namespace Go.Proofs.YtheefojaplnnoaaGreatDoor
open Go.RowKit
theorem aM {S : Nat → Prop} {w w' : World} {base e k n : Nat} {v : Value} {xs : List Value} (h : w.ownsRow base e k v n xs) (hk : aJ S w w') (hS : ∀ b,S b → b < base ∨ w.heap.size ≤ b) : w'.ownsRow base e k v n xs :=
 aW h hk (fun b hb hs => by have h1:=lF h hb; have:=hS b hs; omega)
def wMM (m : MM) (BT BH BG BF BD BE : Nat) (fs : List FuM) (ds : List DaM) : MM:={ ta:=some ⟨BT,0,none⟩,tn:=m.tn,tc:=m.tn + 64,types:=m.types,ha:=some ⟨BH,0,none⟩,hn:=m.hn,hc:=m.hn + 64,hosts:=m.hosts,ga:=some ⟨BG,0,none⟩,gn:=m.gn,gc:=m.gn + 64,globals:=m.globals,fi:=m.fi,mo:=m.mo,fa:=some ⟨BF,0,none⟩,fn:=m.fn,fc:=m.fn + 64,fns:=fs,da:=some ⟨BD,0,none⟩,dn:=m.dn,dc:=m.dn + 64,data:=ds,ea:=some ⟨BE,0,none⟩,en:=m.en,ec:=m.en + 64,exps:=m.exps }
structure MWd (m : MM) (base : Nat) (w : World) (BT BH BG BF BD BE : Nat) (fs : List FuM) (ds : List DaM) : Prop where
 rT : w.ownsRow base 73 2 (.slice (some ⟨BT,0,none⟩) (m.tn + 64) (m.tn + 64)) (m.tn + 64) ((m.types ++ jf m.tn).flatMap dP)
 rH : w.ownsRow base 3 1 (.slice (some ⟨BH,0,none⟩) (m.hn + 64) (m.hn + 64)) (m.hn + 64) ((m.hosts ++ iX m.hn).flatMap dR)
 rG : w.ownsRow base 102 3 (.slice (some ⟨BG,0,none⟩) (m.gn + 64) (m.gn + 64)) (m.gn + 64) ((m.globals ++ jg m.gn).flatMap fF)
 rF : w.ownsRow base 78 3 (.slice (some ⟨BF,0,none⟩) (m.fn + 64) (m.fn + 64)) (m.fn + 64) ((fs ++ ju m.fn).flatMap cm)
 rD : w.ownsRow base 81 2 (.slice (some ⟨BD,0,none⟩) (m.dn + 64) (m.dn + 64)) (m.dn + 64) ((ds ++ jN m.dn).flatMap fY)
 rE : w.ownsRow base 83 2 (.slice (some ⟨BE,0,none⟩) (m.en + 64) (m.en + 64)) (m.en + 64) ((m.exps ++ jq m.en).flatMap fX)
 wF : ∀ y ∈ fs,jV w base y
 wD : ∀ y ∈ ds,jU w base y
 fl : fs.length = m.fn
 dl : ds.length = m.dn
 fs : ∀ (j : Nat) x y,m.fns[j]? = some x → fs[j]? = some y → ki x y
 ds : ∀ (j : Nat) x y,m.data[j]? = some x → ds[j]? = some y → kY x y
theorem MWd.later {m : MM} {base : Nat} {w w' : World} {BT BH BG BF BD BE : Nat} {fs : List FuM} {ds : List DaM} (h : MWd m base w BT BH BG BF BD BE fs ds) (hb : Below w.heap.size w w') : MWd m base w' BT BH BG BF BD BE fs ds :=
 ⟨aM h.rT (az hb) (fun _ h => False.elim h),aM h.rH (az hb) (fun _ h => False.elim h),aM h.rG (az hb) (fun _ h => False.elim h),aM h.rF (az hb) (fun _ h => False.elim h),aM h.rD (az hb) (fun _ h => False.elim h),aM h.rE (az hb) (fun _ h => False.elim h),fun y hy => (h.wF y hy).stay (az hb) (fun _ h => False.elim h),fun y hy => (h.wD y hy).stay (az hb) (fun _ h => False.elim h),h.fl,h.dl,h.fs,h.ds⟩
structure MSr (w : World) (m : MM) : Prop where
 pt : fk w m.ta m.tn m.types
 tn : m.tn ≤ 200000
 ph : i6 w m.ha m.hn m.hosts
 hn : m.hn ≤ 200000
 pg : kg w m.ga m.gn m.globals
 gn : m.gn ≤ 200000
 pf : iU w m.fa m.fn m.fns
 fn : m.fn ≤ 200000
 fx : ∀ x ∈ m.fns,lG w x
 pd : jn w m.da m.dn m.data
 dn : m.dn ≤ 200000
 dx : ∀ x ∈ m.data,lJ w x
 pe : jD w m.ea m.en m.exps
 en : m.en ≤ 200000
theorem MSr.later {w W : World} {m : MM} (h : MSr w m) (hb : Below w.heap.size w W) : MSr W m:=by
 have hk : aJ (fun _ => False) w W:=az hb
 exact ⟨h.pt.kept hk (fun _ _ _ _ => id),h.tn,h.ph.kept hk (fun _ _ _ _ => id),h.hn,h.pg.kept hk (fun _ _ _ _ => id),h.gn,h.pf.kept hk (fun _ _ _ _ => id),h.fn,fun x hx => (h.fx x hx).later hb,h.pd.kept hk (fun _ _ _ _ => id),h.dn,fun x hx => (h.dx x hx).later hb,h.pe.kept hk (fun _ _ _ _ => id),h.en⟩
theorem Jn (TB : Nat) (m : MM) (w : World) (hm : MSr w m) (ht : eW TB w) (hTB : TB ≤ w.heap.size) :
  Calls Tryz.prog 10 #[.agg (mV m)] w fun e w' => ∃ BT BH BG BF BD BE fs ds,e = .returned (.agg (mV (wMM m BT BH BG BF BD BE fs ds))) ∧ MWd m (w.heap.size + 2) w' BT BH BG BF BD BE fs ds ∧ Below w.heap.size w w':=by
 have B1:=ak w (.cells (mV m) 29);have B2:=ak (w.alloc (.cells (mV m) 29)) (.cells zV 29);have bx : ((w.alloc (.cells (mV m) 29)).alloc (.cells zV 29)).heap[w.heap.size]? = some (bg m.ta m.tn m.tc m.ha m.hn m.hc m.ga m.gn m.gc m.fi m.mo m.fa m.fn m.fc m.da m.dn m.dc m.ea m.en m.ec):=ar B2 (heap_alloc_new w (.cells (mV m) 29));have rs : ((w.alloc (.cells (mV m) 29)).alloc (.cells zV 29)).heap[w.heap.size + 1]? = some (.cells zV 29):=jm aq;have hB : Below w.heap.size w ((w.alloc (.cells (mV m) 29)).alloc (.cells zV 29)):=B1.trans (B2.mono aq);have hz : ((w.alloc (.cells (mV m) 29)).alloc (.cells zV 29)).heap.size = w.heap.size + 2:=aq
 have HM:=hid (fun (W : World) (hb : Below w.heap.size w W) => hm.later hb)
 have HW : (w.alloc (bg m.ta m.tn m.tc m.ha m.hn m.hc m.ga m.gn m.gc m.fi m.mo m.fa m.fn m.fc m.da m.dn m.dc m.ea m.en m.ec)).alloc (bg none 0 0 none 0 0 none 0 0 0 0 none 0 0 none 0 0 none 0 0) = (w.alloc (.cells (mV m) 29)).alloc (.cells zV 29):=rfl;have HT:=hid ht;clear hm B1 B2 ht;generalize (w.alloc (.cells (mV m) 29)).alloc (.cells zV 29) = W0 at *;have x0 : W0.cell? ⟨w.heap.size,0,none⟩ = some (.slice m.ta m.tn m.tc):=ag bx;have hsz : w.heap.size + 2 ≤ W0.heap.size:=ae;clear hz
 show Calls Tryz.prog 10 #[.agg #[.slice m.ta m.tn m.tc,.slice m.ha m.hn m.hc,.slice m.ga m.gn m.gc,.int .i64 m.fi,.int .i64 m.mo,.slice m.fa m.fn m.fc,.slice m.da m.dn m.dc,.slice m.ea m.en m.ec]] w _
 go_enter Tryz.func10,Tryz.ntmps10
 go_wp2_with fail;clear HW x0
 refine (Mu TB m.ta m.tn m.tc m.types W0 (HM.out _ hB).pt (by have:=(HM.out _ hB).tn; omega) (HT.out.later (hB.mono hTB)) (Nat.le_trans hTB hB.size)).mono ?_
 rintro e w1 ⟨rfl,ho,hb⟩;have ho:=eo ho (show w.heap.size + 2 ≤ W0.heap.size from hsz);have bx:=ar hb bx;have rs:=ar hb rs;have hB1 : Below w.heap.size w w1:=hB.trans (hb.mono hB.size);have hsz1 : w.heap.size + 2 ≤ w1.heap.size:=Nat.le_trans hsz hb.size;clear hb hB hsz;generalize W0.heap.size = BT at *;have x0 : w1.cell? ⟨w.heap.size,0,none⟩ = some (.slice m.ta m.tn m.tc):=ag bx;have g0 : w1.frozen? ⟨w.heap.size,0,none⟩ = false:=aU bx;have x1 : w1.cell? ⟨w.heap.size,1,none⟩ = some (.slice m.ha m.hn m.hc):=ag bx;have hkS:=aw w1 w.heap.size 0 (.slice (some ⟨BT,0,none⟩) m.tn (m.tn + 64));have bx2 : (w1.setCell ⟨w.heap.size,0,none⟩ (.slice (some ⟨BT,0,none⟩) m.tn (m.tn + 64))).heap[w.heap.size]? = some (bg (some ⟨BT,0,none⟩) m.tn (m.tn + 64) m.ha m.hn m.hc m.ga m.gn m.gc m.fi m.mo m.fa m.fn m.fc m.da m.dn m.dc m.ea m.en m.ec):=bJ bx;have rs2 : (w1.setCell ⟨w.heap.size,0,none⟩ (.slice (some ⟨BT,0,none⟩) m.tn (m.tn + 64))).heap[w.heap.size + 1]? = some (.cells zV 29):=(hkS.block _ ae aq).trans rs
 have hB2 : Below w.heap.size w (w1.setCell ⟨w.heap.size,0,none⟩ (.slice (some ⟨BT,0,none⟩) m.tn (m.tn + 64))):=hB1.trans (hkS.to_below (B:=w.heap.size) hB1.size (fun k hk hx => nX))
 have hs2 : w.heap.size + 2 ≤ (w1.setCell ⟨w.heap.size,0,none⟩ (.slice (some ⟨BT,0,none⟩) m.tn (m.tn + 64))).heap.size:=Nat.le_trans hsz1 hkS.size
 have RT:=hid (aM ho hkS (fun b hx => .inl cG))
 clear bx rs hB1 hsz1 ho;go_wp2_with fail;clear x0 g0 x1
 have bx:=bx2; have rs:=rs2; have hB:=hB2; have hsz:=hs2
 clear bx2 rs2 hB2 hs2 hkS;generalize w1.setCell ⟨w.heap.size,0,none⟩ (.slice (some ⟨BT,0,none⟩) m.tn (m.tn + 64)) = W1 at *
 refine (Hj 0 m.ha m.hn m.hc m.hosts W1 (HM.out _ hB).ph (by have:=(HM.out _ hB).hn; omega)).mono ?_
 rintro e w2 ⟨rfl,ho,hb⟩;have ho:=eo ho (show w.heap.size + 2 ≤ W1.heap.size from hsz);have bx:=ar hb bx;have rs:=ar hb rs;have hB1 : Below w.heap.size w w2:=hB.trans (hb.mono hB.size);have hsz1 : w.heap.size + 2 ≤ w2.heap.size:=Nat.le_trans hsz hb.size
 have RT:=hid (aM RT.out (az hb) (fun _ h => False.elim h))
 clear hb hB hsz;generalize W1.heap.size = BH at *;have x1 : w2.cell? ⟨w.heap.size,1,none⟩ = some (.slice m.ha m.hn m.hc):=ag bx;have g1 : w2.frozen? ⟨w.heap.size,1,none⟩ = false:=aU bx;have x2 : w2.cell? ⟨w.heap.size,2,none⟩ = some (.slice m.ga m.gn m.gc):=ag bx;have hkS:=aw w2 w.heap.size 1 (.slice (some ⟨BH,0,none⟩) m.hn (m.hn + 64));have bx2 : (w2.setCell ⟨w.heap.size,1,none⟩ (.slice (some ⟨BH,0,none⟩) m.hn (m.hn + 64))).heap[w.heap.size]? = some (bg (some ⟨BT,0,none⟩) m.tn (m.tn + 64) (some ⟨BH,0,none⟩) m.hn (m.hn + 64) m.ga m.gn m.gc m.fi m.mo m.fa m.fn m.fc m.da m.dn m.dc m.ea m.en m.ec):=bJ bx;have rs2 : (w2.setCell ⟨w.heap.size,1,none⟩ (.slice (some ⟨BH,0,none⟩) m.hn (m.hn + 64))).heap[w.heap.size + 1]? = some (.cells zV 29):=(hkS.block _ ae aq).trans rs
 have hB2 : Below w.heap.size w (w2.setCell ⟨w.heap.size,1,none⟩ (.slice (some ⟨BH,0,none⟩) m.hn (m.hn + 64))):=hB1.trans (hkS.to_below (B:=w.heap.size) hB1.size (fun k hk hx => nX))
 have hs2 : w.heap.size + 2 ≤ (w2.setCell ⟨w.heap.size,1,none⟩ (.slice (some ⟨BH,0,none⟩) m.hn (m.hn + 64))).heap.size:=Nat.le_trans hsz1 hkS.size
 have RT:=hid (aM RT.out hkS (fun b hx => .inl cG))
 have RH:=hid (aM ho hkS (fun b hx => .inl cG))
 clear bx rs hB1 hsz1 ho;go_wp2_with fail;clear x1 g1 x2
 have bx:=bx2; have rs:=rs2; have hB:=hB2; have hsz:=hs2
 clear bx2 rs2 hB2 hs2 hkS;generalize w2.setCell ⟨w.heap.size,1,none⟩ (.slice (some ⟨BH,0,none⟩) m.hn (m.hn + 64)) = W2 at *
 refine (LW 0 m.ga m.gn m.gc m.globals W2 (HM.out _ hB).pg (by have:=(HM.out _ hB).gn; omega)).mono ?_
 rintro e w3 ⟨rfl,ho,hb⟩;have ho:=eo ho (show w.heap.size + 2 ≤ W2.heap.size from hsz);have bx:=ar hb bx;have rs:=ar hb rs;have hB1 : Below w.heap.size w w3:=hB.trans (hb.mono hB.size);have hsz1 : w.heap.size + 2 ≤ w3.heap.size:=Nat.le_trans hsz hb.size
 have RT:=hid (aM RT.out (az hb) (fun _ h => False.elim h))
 have RH:=hid (aM RH.out (az hb) (fun _ h => False.elim h))
 clear hb hB hsz;generalize W2.heap.size = BG at *;have x2 : w3.cell? ⟨w.heap.size,2,none⟩ = some (.slice m.ga m.gn m.gc):=ag bx;have g2 : w3.frozen? ⟨w.heap.size,2,none⟩ = false:=aU bx;have x5 : w3.cell? ⟨w.heap.size,5,none⟩ = some (.slice m.fa m.fn m.fc):=ag bx;have hkS:=aw w3 w.heap.size 2 (.slice (some ⟨BG,0,none⟩) m.gn (m.gn + 64));have bx2 : (w3.setCell ⟨w.heap.size,2,none⟩ (.slice (some ⟨BG,0,none⟩) m.gn (m.gn + 64))).heap[w.heap.size]? = some (bg (some ⟨BT,0,none⟩) m.tn (m.tn + 64) (some ⟨BH,0,none⟩) m.hn (m.hn + 64) (some ⟨BG,0,none⟩) m.gn (m.gn + 64) m.fi m.mo m.fa m.fn m.fc m.da m.dn m.dc m.ea m.en m.ec):=bJ bx;have rs2 : (w3.setCell ⟨w.heap.size,2,none⟩ (.slice (some ⟨BG,0,none⟩) m.gn (m.gn + 64))).heap[w.heap.size + 1]? = some (.cells zV 29):=(hkS.block _ ae aq).trans rs
 have hB2 : Below w.heap.size w (w3.setCell ⟨w.heap.size,2,none⟩ (.slice (some ⟨BG,0,none⟩) m.gn (m.gn + 64))):=hB1.trans (hkS.to_below (B:=w.heap.size) hB1.size (fun k hk hx => nX))
 have hs2 : w.heap.size + 2 ≤ (w3.setCell ⟨w.heap.size,2,none⟩ (.slice (some ⟨BG,0,none⟩) m.gn (m.gn + 64))).heap.size:=Nat.le_trans hsz1 hkS.size
 have RT:=hid (aM RT.out hkS (fun b hx => .inl cG))
 have RH:=hid (aM RH.out hkS (fun b hx => .inl cG))
 have RG:=hid (aM ho hkS (fun b hx => .inl cG))
 clear bx rs hB1 hsz1 ho;go_wp2_with fail;clear x2 g2 x5
 have bx:=bx2; have rs:=rs2; have hB:=hB2; have hsz:=hs2
 clear bx2 rs2 hB2 hs2 hkS;generalize w3.setCell ⟨w.heap.size,2,none⟩ (.slice (some ⟨BG,0,none⟩) m.gn (m.gn + 64)) = W3 at *;refine (ND m.fa m.fn m.fc m.fns W3 (HM.out _ hB).pf (HM.out _ hB).fn (HM.out _ hB).fx).mono ?_;rintro e w4 ⟨fs,rfl,hyl,ho,hwd,hsm,hb⟩;have HF:=hid (And.intro hyl hsm);clear hyl hsm;have ho:=eo ho (show w.heap.size + 2 ≤ W3.heap.size from hsz)
 have hwe : ∀ y ∈ fs,jV w4 (w.heap.size + 2) y:=fun y hy => (hwd y hy).low ae
 clear hwd;have bx:=ar hb bx;have rs:=ar hb rs;have hB1 : Below w.heap.size w w4:=hB.trans (hb.mono hB.size);have hsz1 : w.heap.size + 2 ≤ w4.heap.size:=Nat.le_trans hsz hb.size
 have RT:=hid (aM RT.out (az hb) (fun _ h => False.elim h))
 have RH:=hid (aM RH.out (az hb) (fun _ h => False.elim h))
 have RG:=hid (aM RG.out (az hb) (fun _ h => False.elim h))
 clear hb hB hsz;generalize W3.heap.size = BF at *;have x5 : w4.cell? ⟨w.heap.size,5,none⟩ = some (.slice m.fa m.fn m.fc):=ag bx;have g5 : w4.frozen? ⟨w.heap.size,5,none⟩ = false:=aU bx;have x6 : w4.cell? ⟨w.heap.size,6,none⟩ = some (.slice m.da m.dn m.dc):=ag bx;have hkS:=aw w4 w.heap.size 5 (.slice (some ⟨BF,0,none⟩) m.fn (m.fn + 64));have bx2 : (w4.setCell ⟨w.heap.size,5,none⟩ (.slice (some ⟨BF,0,none⟩) m.fn (m.fn + 64))).heap[w.heap.size]? = some (bg (some ⟨BT,0,none⟩) m.tn (m.tn + 64) (some ⟨BH,0,none⟩) m.hn (m.hn + 64) (some ⟨BG,0,none⟩) m.gn (m.gn + 64) m.fi m.mo (some ⟨BF,0,none⟩) m.fn (m.fn + 64) m.da m.dn m.dc m.ea m.en m.ec):=bJ bx;have rs2 : (w4.setCell ⟨w.heap.size,5,none⟩ (.slice (some ⟨BF,0,none⟩) m.fn (m.fn + 64))).heap[w.heap.size + 1]? = some (.cells zV 29):=(hkS.block _ ae aq).trans rs
 have hB2 : Below w.heap.size w (w4.setCell ⟨w.heap.size,5,none⟩ (.slice (some ⟨BF,0,none⟩) m.fn (m.fn + 64))):=hB1.trans (hkS.to_below (B:=w.heap.size) hB1.size (fun k hk hx => nX))
 have hs2 : w.heap.size + 2 ≤ (w4.setCell ⟨w.heap.size,5,none⟩ (.slice (some ⟨BF,0,none⟩) m.fn (m.fn + 64))).heap.size:=Nat.le_trans hsz1 hkS.size
 have RT:=hid (aM RT.out hkS (fun b hx => .inl cG))
 have RH:=hid (aM RH.out hkS (fun b hx => .inl cG))
 have RG:=hid (aM RG.out hkS (fun b hx => .inl cG))
 have RF:=hid (aM ho hkS (fun b hx => .inl cG))
 have VF:=hid (fun y hy => (hwe y hy).stay hkS (fun b hx => .inl cG))
 clear bx rs hB1 hsz1 ho hwe;go_wp2_with fail;clear x5 g5 x6
 have bx:=bx2; have rs:=rs2; have hB:=hB2; have hsz:=hs2
 clear bx2 rs2 hB2 hs2 hkS;generalize w4.setCell ⟨w.heap.size,5,none⟩ (.slice (some ⟨BF,0,none⟩) m.fn (m.fn + 64)) = W4 at *;refine (LZ m.da m.dn m.dc m.data W4 (HM.out _ hB).pd (HM.out _ hB).dn (HM.out _ hB).dx).mono ?_;rintro e w5 ⟨ds,rfl,hyl,ho,hwd,hsm,hb⟩;have HD:=hid (And.intro hyl hsm);clear hyl hsm;have ho:=eo ho (show w.heap.size + 2 ≤ W4.heap.size from hsz)
 have hwe : ∀ y ∈ ds,jU w5 (w.heap.size + 2) y:=fun y hy => (hwd y hy).low ae
 clear hwd;have bx:=ar hb bx;have rs:=ar hb rs;have hB1 : Below w.heap.size w w5:=hB.trans (hb.mono hB.size);have hsz1 : w.heap.size + 2 ≤ w5.heap.size:=Nat.le_trans hsz hb.size
 have RT:=hid (aM RT.out (az hb) (fun _ h => False.elim h))
 have RH:=hid (aM RH.out (az hb) (fun _ h => False.elim h))
 have RG:=hid (aM RG.out (az hb) (fun _ h => False.elim h))
 have RF:=hid (aM RF.out (az hb) (fun _ h => False.elim h))
 have VF:=hid (fun y hy => (VF.out y hy).stay (az hb) (fun _ h => False.elim h))
 clear hb hB hsz;generalize W4.heap.size = BD at *;have x6 : w5.cell? ⟨w.heap.size,6,none⟩ = some (.slice m.da m.dn m.dc):=ag bx;have g6 : w5.frozen? ⟨w.heap.size,6,none⟩ = false:=aU bx;have x7 : w5.cell? ⟨w.heap.size,7,none⟩ = some (.slice m.ea m.en m.ec):=ag bx;have hkS:=aw w5 w.heap.size 6 (.slice (some ⟨BD,0,none⟩) m.dn (m.dn + 64));have bx2 : (w5.setCell ⟨w.heap.size,6,none⟩ (.slice (some ⟨BD,0,none⟩) m.dn (m.dn + 64))).heap[w.heap.size]? = some (bg (some ⟨BT,0,none⟩) m.tn (m.tn + 64) (some ⟨BH,0,none⟩) m.hn (m.hn + 64) (some ⟨BG,0,none⟩) m.gn (m.gn + 64) m.fi m.mo (some ⟨BF,0,none⟩) m.fn (m.fn + 64) (some ⟨BD,0,none⟩) m.dn (m.dn + 64) m.ea m.en m.ec):=bJ bx;have rs2 : (w5.setCell ⟨w.heap.size,6,none⟩ (.slice (some ⟨BD,0,none⟩) m.dn (m.dn + 64))).heap[w.heap.size + 1]? = some (.cells zV 29):=(hkS.block _ ae aq).trans rs
 have hB2 : Below w.heap.size w (w5.setCell ⟨w.heap.size,6,none⟩ (.slice (some ⟨BD,0,none⟩) m.dn (m.dn + 64))):=hB1.trans (hkS.to_below (B:=w.heap.size) hB1.size (fun k hk hx => nX))
 have hs2 : w.heap.size + 2 ≤ (w5.setCell ⟨w.heap.size,6,none⟩ (.slice (some ⟨BD,0,none⟩) m.dn (m.dn + 64))).heap.size:=Nat.le_trans hsz1 hkS.size
 have RT:=hid (aM RT.out hkS (fun b hx => .inl cG))
 have RH:=hid (aM RH.out hkS (fun b hx => .inl cG))
 have RG:=hid (aM RG.out hkS (fun b hx => .inl cG))
 have RF:=hid (aM RF.out hkS (fun b hx => .inl cG))
 have VF:=hid (fun y hy => (VF.out y hy).stay hkS (fun b hx => .inl cG))
 have RD:=hid (aM ho hkS (fun b hx => .inl cG))
 have VD:=hid (fun y hy => (hwe y hy).stay hkS (fun b hx => .inl cG))
 clear bx rs hB1 hsz1 ho hwe;go_wp2_with fail;clear x6 g6 x7
 have bx:=bx2; have rs:=rs2; have hB:=hB2; have hsz:=hs2
 clear bx2 rs2 hB2 hs2 hkS;generalize w5.setCell ⟨w.heap.size,6,none⟩ (.slice (some ⟨BD,0,none⟩) m.dn (m.dn + 64)) = W5 at *
 refine (Mq TB m.ea m.en m.ec m.exps W5 (HM.out _ hB).pe (by have:=(HM.out _ hB).en; omega) (HT.out.later (hB.mono hTB)) (Nat.le_trans hTB hB.size)).mono ?_
 rintro e w6 ⟨rfl,ho,hb⟩;have ho:=eo ho (show w.heap.size + 2 ≤ W5.heap.size from hsz);have bx:=ar hb bx;have rs:=ar hb rs;have hB1 : Below w.heap.size w w6:=hB.trans (hb.mono hB.size);have hsz1 : w.heap.size + 2 ≤ w6.heap.size:=Nat.le_trans hsz hb.size
 have RT:=hid (aM RT.out (az hb) (fun _ h => False.elim h))
 have RH:=hid (aM RH.out (az hb) (fun _ h => False.elim h))
 have RG:=hid (aM RG.out (az hb) (fun _ h => False.elim h))
 have RF:=hid (aM RF.out (az hb) (fun _ h => False.elim h))
 have VF:=hid (fun y hy => (VF.out y hy).stay (az hb) (fun _ h => False.elim h))
 have RD:=hid (aM RD.out (az hb) (fun _ h => False.elim h))
 have VD:=hid (fun y hy => (VD.out y hy).stay (az hb) (fun _ h => False.elim h))
 clear hb hB hsz;generalize W5.heap.size = BE at *;have x7 : w6.cell? ⟨w.heap.size,7,none⟩ = some (.slice m.ea m.en m.ec):=ag bx;have g7 : w6.frozen? ⟨w.heap.size,7,none⟩ = false:=aU bx;have x0 : w6.cell? ⟨w.heap.size,0,none⟩ = some (.slice (some ⟨BT,0,none⟩) m.tn (m.tn + 64)):=ag bx;have x1 : w6.cell? ⟨w.heap.size,1,none⟩ = some (.slice (some ⟨BH,0,none⟩) m.hn (m.hn + 64)):=ag bx;have x2 : w6.cell? ⟨w.heap.size,2,none⟩ = some (.slice (some ⟨BG,0,none⟩) m.gn (m.gn + 64)):=ag bx;have x3 : w6.cell? ⟨w.heap.size,3,none⟩ = some (.int .i64 m.fi):=ag bx;have x4 : w6.cell? ⟨w.heap.size,4,none⟩ = some (.int .i64 m.mo):=ag bx;have x5 : w6.cell? ⟨w.heap.size,5,none⟩ = some (.slice (some ⟨BF,0,none⟩) m.fn (m.fn + 64)):=ag bx;have x6 : w6.cell? ⟨w.heap.size,6,none⟩ = some (.slice (some ⟨BD,0,none⟩) m.dn (m.dn + 64)):=ag bx;have y0 : w6.cell? ⟨w.heap.size + 1,0,none⟩ = some (.slice none 0 0):=ag rs;have f0 : w6.frozen? ⟨w.heap.size + 1,0,none⟩ = false:=aU rs;have y1 : w6.cell? ⟨w.heap.size + 1,1,none⟩ = some (.slice none 0 0):=ag rs;have f1 : w6.frozen? ⟨w.heap.size + 1,1,none⟩ = false:=aU rs;have y2 : w6.cell? ⟨w.heap.size + 1,2,none⟩ = some (.slice none 0 0):=ag rs;have f2 : w6.frozen? ⟨w.heap.size + 1,2,none⟩ = false:=aU rs;have y3 : w6.cell? ⟨w.heap.size + 1,3,none⟩ = some (.int .i64 0):=ag rs;have f3 : w6.frozen? ⟨w.heap.size + 1,3,none⟩ = false:=aU rs;have y4 : w6.cell? ⟨w.heap.size + 1,4,none⟩ = some (.int .i64 0):=ag rs;have f4 : w6.frozen? ⟨w.heap.size + 1,4,none⟩ = false:=aU rs;have y5 : w6.cell? ⟨w.heap.size + 1,5,none⟩ = some (.slice none 0 0):=ag rs;have f5 : w6.frozen? ⟨w.heap.size + 1,5,none⟩ = false:=aU rs;have y6 : w6.cell? ⟨w.heap.size + 1,6,none⟩ = some (.slice none 0 0):=ag rs;have f6 : w6.frozen? ⟨w.heap.size + 1,6,none⟩ = false:=aU rs;have y7 : w6.cell? ⟨w.heap.size + 1,7,none⟩ = some (.slice none 0 0):=ag rs;have f7 : w6.frozen? ⟨w.heap.size + 1,7,none⟩ = false:=aU rs;have hkS:=aw w6 w.heap.size 7 (.slice (some ⟨BE,0,none⟩) m.en (m.en + 64))
 have bx2 : (w6.setCell ⟨w.heap.size,7,none⟩ (.slice (some ⟨BE,0,none⟩) m.en (m.en + 64))).heap[w.heap.size]? = some (bg (some ⟨BT,0,none⟩) m.tn (m.tn + 64) (some ⟨BH,0,none⟩) m.hn (m.hn + 64) (some ⟨BG,0,none⟩) m.gn (m.gn + 64) m.fi m.mo (some ⟨BF,0,none⟩) m.fn (m.fn + 64) (some ⟨BD,0,none⟩) m.dn (m.dn + 64) (some ⟨BE,0,none⟩) m.en (m.en + 64)):=bJ bx;have rs2 : (w6.setCell ⟨w.heap.size,7,none⟩ (.slice (some ⟨BE,0,none⟩) m.en (m.en + 64))).heap[w.heap.size + 1]? = some (.cells zV 29):=(hkS.block _ ae aq).trans rs
 have hB2 : Below w.heap.size w (w6.setCell ⟨w.heap.size,7,none⟩ (.slice (some ⟨BE,0,none⟩) m.en (m.en + 64))):=hB1.trans (hkS.to_below (B:=w.heap.size) hB1.size (fun k hk hx => nX))
 have hs2 : w.heap.size + 2 ≤ (w6.setCell ⟨w.heap.size,7,none⟩ (.slice (some ⟨BE,0,none⟩) m.en (m.en + 64))).heap.size:=Nat.le_trans hsz1 hkS.size
 have RT:=hid (aM RT.out hkS (fun b hx => .inl cG))
 have RH:=hid (aM RH.out hkS (fun b hx => .inl cG))
 have RG:=hid (aM RG.out hkS (fun b hx => .inl cG))
 have RF:=hid (aM RF.out hkS (fun b hx => .inl cG))
 have VF:=hid (fun y hy => (VF.out y hy).stay hkS (fun b hx => .inl cG))
 have RD:=hid (aM RD.out hkS (fun b hx => .inl cG))
 have VD:=hid (fun y hy => (VD.out y hy).stay hkS (fun b hx => .inl cG))
 have RE:=hid (aM ho hkS (fun b hx => .inl cG))
 clear bx rs hB1 hsz1 ho;clear bx2 hkS;go_wp2_with fail;generalize hWN : w6.setCell ⟨w.heap.size,7,none⟩ (.slice (some ⟨BE,0,none⟩) m.en (m.en + 64)) = WN at *
 have hkR : aJ (fun k => k = w.heap.size + 1) WN ((((((((WN.setCell ⟨w.heap.size + 1,0,none⟩ (.slice (some ⟨BT,0,none⟩) m.tn (m.tn + 64))).setCell ⟨w.heap.size + 1,1,none⟩ (.slice (some ⟨BH,0,none⟩) m.hn (m.hn + 64))).setCell ⟨w.heap.size + 1,2,none⟩ (.slice (some ⟨BG,0,none⟩) m.gn (m.gn + 64))).setCell ⟨w.heap.size + 1,3,none⟩ (.int .i64 m.fi)).setCell ⟨w.heap.size + 1,4,none⟩ (.int .i64 m.mo)).setCell ⟨w.heap.size + 1,5,none⟩ (.slice (some ⟨BF,0,none⟩) m.fn (m.fn + 64))).setCell ⟨w.heap.size + 1,6,none⟩ (.slice (some ⟨BD,0,none⟩) m.dn (m.dn + 64))).setCell ⟨w.heap.size + 1,7,none⟩ (.slice (some ⟨BE,0,none⟩) m.en (m.en + 64))):=((((((((aw WN (w.heap.size + 1) 0 (.slice (some ⟨BT,0,none⟩) m.tn (m.tn + 64))).trans (aw _ (w.heap.size + 1) 1 (.slice (some ⟨BH,0,none⟩) m.hn (m.hn + 64)))).trans (aw _ (w.heap.size + 1) 2 (.slice (some ⟨BG,0,none⟩) m.gn (m.gn + 64)))).trans (aw _ (w.heap.size + 1) 3 (.int .i64 m.fi))).trans (aw _ (w.heap.size + 1) 4 (.int .i64 m.mo))).trans (aw _ (w.heap.size + 1) 5 (.slice (some ⟨BF,0,none⟩) m.fn (m.fn + 64)))).trans (aw _ (w.heap.size + 1) 6 (.slice (some ⟨BD,0,none⟩) m.dn (m.dn + 64)))).trans (aw _ (w.heap.size + 1) 7 (.slice (some ⟨BE,0,none⟩) m.en (m.en + 64))))
 have hrs : ((((((((WN.setCell ⟨w.heap.size + 1,0,none⟩ (.slice (some ⟨BT,0,none⟩) m.tn (m.tn + 64))).setCell ⟨w.heap.size + 1,1,none⟩ (.slice (some ⟨BH,0,none⟩) m.hn (m.hn + 64))).setCell ⟨w.heap.size + 1,2,none⟩ (.slice (some ⟨BG,0,none⟩) m.gn (m.gn + 64))).setCell ⟨w.heap.size + 1,3,none⟩ (.int .i64 m.fi)).setCell ⟨w.heap.size + 1,4,none⟩ (.int .i64 m.mo)).setCell ⟨w.heap.size + 1,5,none⟩ (.slice (some ⟨BF,0,none⟩) m.fn (m.fn + 64))).setCell ⟨w.heap.size + 1,6,none⟩ (.slice (some ⟨BD,0,none⟩) m.dn (m.dn + 64))).setCell ⟨w.heap.size + 1,7,none⟩ (.slice (some ⟨BE,0,none⟩) m.en (m.en + 64))).heap[w.heap.size + 1]? = some (bg (some ⟨BT,0,none⟩) m.tn (m.tn + 64) (some ⟨BH,0,none⟩) m.hn (m.hn + 64) (some ⟨BG,0,none⟩) m.gn (m.gn + 64) m.fi m.mo (some ⟨BF,0,none⟩) m.fn (m.fn + 64) (some ⟨BD,0,none⟩) m.dn (m.dn + 64) (some ⟨BE,0,none⟩) m.en (m.en + 64)):=bJ (bJ (bJ (bJ (bJ (bJ (bJ (bJ (rs2))))))));generalize ((((((((WN.setCell ⟨w.heap.size + 1,0,none⟩ (.slice (some ⟨BT,0,none⟩) m.tn (m.tn + 64))).setCell ⟨w.heap.size + 1,1,none⟩ (.slice (some ⟨BH,0,none⟩) m.hn (m.hn + 64))).setCell ⟨w.heap.size + 1,2,none⟩ (.slice (some ⟨BG,0,none⟩) m.gn (m.gn + 64))).setCell ⟨w.heap.size + 1,3,none⟩ (.int .i64 m.fi)).setCell ⟨w.heap.size + 1,4,none⟩ (.int .i64 m.mo)).setCell ⟨w.heap.size + 1,5,none⟩ (.slice (some ⟨BF,0,none⟩) m.fn (m.fn + 64))).setCell ⟨w.heap.size + 1,6,none⟩ (.slice (some ⟨BD,0,none⟩) m.dn (m.dn + 64))).setCell ⟨w.heap.size + 1,7,none⟩ (.slice (some ⟨BE,0,none⟩) m.en (m.en + 64))) = WF at *;have r0 : WF.cell? ⟨w.heap.size + 1,0,none⟩ = some (.slice (some ⟨BT,0,none⟩) m.tn (m.tn + 64)):=ag hrs;have r1 : WF.cell? ⟨w.heap.size + 1,1,none⟩ = some (.slice (some ⟨BH,0,none⟩) m.hn (m.hn + 64)):=ag hrs;have r2 : WF.cell? ⟨w.heap.size + 1,2,none⟩ = some (.slice (some ⟨BG,0,none⟩) m.gn (m.gn + 64)):=ag hrs;have r3 : WF.cell? ⟨w.heap.size + 1,3,none⟩ = some (.int .i64 m.fi):=ag hrs;have r4 : WF.cell? ⟨w.heap.size + 1,4,none⟩ = some (.int .i64 m.mo):=ag hrs
 have r5 : WF.cell? ⟨w.heap.size + 1,5,none⟩ = some (.slice (some ⟨BF,0,none⟩) m.fn (m.fn + 64)):=ag hrs;have r6 : WF.cell? ⟨w.heap.size + 1,6,none⟩ = some (.slice (some ⟨BD,0,none⟩) m.dn (m.dn + 64)):=ag hrs;have r7 : WF.cell? ⟨w.heap.size + 1,7,none⟩ = some (.slice (some ⟨BE,0,none⟩) m.en (m.en + 64)):=ag hrs
 refine bodyPost_ret (v:=.agg #[.slice (some ⟨BT,0,none⟩) m.tn (m.tn + 64),.slice (some ⟨BH,0,none⟩) m.hn (m.hn + 64),.slice (some ⟨BG,0,none⟩) m.gn (m.gn + 64),.int .i64 m.fi,.int .i64 m.mo,.slice (some ⟨BF,0,none⟩) m.fn (m.fn + 64),.slice (some ⟨BD,0,none⟩) m.dn (m.dn + 64),.slice (some ⟨BE,0,none⟩) m.en (m.en + 64)]) (by simp [results,Tryz.results10,go_sem,r0,r1,r2,r3,r4,r5,r6,r7]) rfl ⟨BT,BH,BG,BF,BD,BE,fs,ds,rfl,⟨aM RT.out hkR (fun b hx => .inl kH),aM RH.out hkR (fun b hx => .inl kH),aM RG.out hkR (fun b hx => .inl kH),aM RF.out hkR (fun b hx => .inl kH),aM RD.out hkR (fun b hx => .inl kH),aM RE.out hkR (fun b hx => .inl kH),fun y hy => (VF.out y hy).stay hkR (fun b hx => .inl kH),fun y hy => (VD.out y hy).stay hkR (fun b hx => .inl kH),HF.out.1,HD.out.1,HF.out.2,HD.out.2⟩,hB2.trans (hkR.to_below (B:=w.heap.size) hB2.size (fun k hk hx => by have : k = w.heap.size + 1:=hx; omega))⟩
end Go.Proofs.YtheefojaplnnoaaGreatDoor
