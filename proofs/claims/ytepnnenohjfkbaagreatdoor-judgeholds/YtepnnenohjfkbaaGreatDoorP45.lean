/-
  Texts Qi.
-/
import Derived.Test.YtepnnenohjfkbaaGreatDoorP00
import Derived.Test.YtepnnenohjfkbaaGreatDoorP44
set_option linter.unusedVariables false
set_option maxRecDepth 100000
set_option maxHeartbeats 16000000
namespace Go.Proofs.YtepnnenohjfkbaaGreatDoor
open Go.RowKit
theorem aL {S : Nat → Prop} {w w' : World} {base e k n : Nat} {v : Value} {xs : List Value} (h : w.ownsRow base e k v n xs) (hk : Kept S w w') (hS : ∀ b,S b → b < base ∨ w.heap.size ≤ b) : w'.ownsRow base e k v n xs :=
 bg h hk (fun b hb hs => by have h1:=lJ h hb; have:=hS b hs; omega)
def wMM (m : MM) (BT BH BG BF BD BE : Nat) (fs : List FuM) (ds : List DaM) : MM:={ ta:=some ⟨BT,0,none⟩,tn:=m.tn,tc:=m.tn + 64,types:=m.types,ha:=some ⟨BH,0,none⟩,hn:=m.hn,hc:=m.hn + 64,hosts:=m.hosts,ga:=some ⟨BG,0,none⟩,gn:=m.gn,gc:=m.gn + 64,globals:=m.globals,fi:=m.fi,mo:=m.mo,fa:=some ⟨BF,0,none⟩,fn:=m.fn,fc:=m.fn + 64,fns:=fs,da:=some ⟨BD,0,none⟩,dn:=m.dn,dc:=m.dn + 64,data:=ds,ea:=some ⟨BE,0,none⟩,en:=m.en,ec:=m.en + 64,exps:=m.exps }
structure MWd (m : MM) (base : Nat) (w : World) (BT BH BG BF BD BE : Nat) (fs : List FuM) (ds : List DaM) : Prop where
 rT : w.ownsRow base 62 2 (.slice (some ⟨BT,0,none⟩) (m.tn + 64) (m.tn + 64)) (m.tn + 64) ((m.types ++ iM m.tn).flatMap gH)
 rH : w.ownsRow base 3 1 (.slice (some ⟨BH,0,none⟩) (m.hn + 64) (m.hn + 64)) (m.hn + 64) ((m.hosts ++ iE m.hn).flatMap fX)
 rG : w.ownsRow base 141 3 (.slice (some ⟨BG,0,none⟩) (m.gn + 64) (m.gn + 64)) (m.gn + 64) ((m.globals ++ i6 m.gn).flatMap fO)
 rF : w.ownsRow base 42 3 (.slice (some ⟨BF,0,none⟩) (m.fn + 64) (m.fn + 64)) (m.fn + 64) ((fs ++ jl m.fn).flatMap fE)
 rD : w.ownsRow base 66 2 (.slice (some ⟨BD,0,none⟩) (m.dn + 64) (m.dn + 64)) (m.dn + 64) ((ds ++ jt m.dn).flatMap gQ)
 rE : w.ownsRow base 68 2 (.slice (some ⟨BE,0,none⟩) (m.en + 64) (m.en + 64)) (m.en + 64) ((m.exps ++ iW m.en).flatMap gM)
 wF : ∀ y ∈ fs,jK w base y
 wD : ∀ y ∈ ds,jI w base y
 fl : fs.length = m.fn
 dl : ds.length = m.dn
 fs : ∀ (j : Nat) x y,m.fns[j]? = some x → fs[j]? = some y → nV x y
 ds : ∀ (j : Nat) x y,m.data[j]? = some x → ds[j]? = some y → rP x y
theorem MWd.later {m : MM} {base : Nat} {w w' : World} {BT BH BG BF BD BE : Nat} {fs : List FuM} {ds : List DaM} (h : MWd m base w BT BH BG BF BD BE fs ds) (hb : Below w.heap.size w w') : MWd m base w' BT BH BG BF BD BE fs ds :=
 ⟨aL h.rT (az hb) (fun _ h => False.elim h),aL h.rH (az hb) (fun _ h => False.elim h),aL h.rG (az hb) (fun _ h => False.elim h),aL h.rF (az hb) (fun _ h => False.elim h),aL h.rD (az hb) (fun _ h => False.elim h),aL h.rE (az hb) (fun _ h => False.elim h),fun y hy => (h.wF y hy).stay (az hb) (fun _ h => False.elim h),fun y hy => (h.wD y hy).stay (az hb) (fun _ h => False.elim h),h.fl,h.dl,h.fs,h.ds⟩
structure MSr (w : World) (m : MM) : Prop where
 pt : eA w m.ta m.tn m.types
 tn : m.tn ≤ 100000
 ph : iN w m.ha m.hn m.hosts
 hn : m.hn ≤ 100000
 pg : jf w m.ga m.gn m.globals
 gn : m.gn ≤ 100000
 pf : i7 w m.fa m.fn m.fns
 fn : m.fn ≤ 100000
 fx : ∀ x ∈ m.fns,xP w x
 pd : ki w m.da m.dn m.data
 dn : m.dn ≤ 100000
 dx : ∀ x ∈ m.data,xN w x
 pe : jL w m.ea m.en m.exps
 en : m.en ≤ 100000
theorem MSr.later {w W : World} {m : MM} (h : MSr w m) (hb : Below w.heap.size w W) : MSr W m:=by
 have hk : Kept (fun _ => False) w W:=az hb
 exact ⟨h.pt.kept hk (fun _ _ _ _ => id),h.tn,h.ph.kept hk (fun _ _ _ _ => id),h.hn,h.pg.kept hk (fun _ _ _ _ => id),h.gn,h.pf.kept hk (fun _ _ _ _ => id),h.fn,fun x hx => (h.fx x hx).later hb,h.pd.kept hk (fun _ _ _ _ => id),h.dn,fun x hx => (h.dx x hx).later hb,h.pe.kept hk (fun _ _ _ _ => id),h.en⟩
theorem Md (TB : Nat) (m : MM) (w : World) (hm : MSr w m) (ht : jW TB w) (hTB : TB ≤ w.heap.size) :
  Calls Tryz.prog 21 #[.agg (mV m)] w fun e w' => ∃ BT BH BG BF BD BE fs ds,e = .returned (.agg (mV (wMM m BT BH BG BF BD BE fs ds))) ∧ MWd m (w.heap.size + 2) w' BT BH BG BF BD BE fs ds ∧ Below w.heap.size w w':=by
 have B1:=aj w (.cells (mV m) 29);have B2:=aj (w.alloc (.cells (mV m) 29)) (.cells zV 29);have bx : ((w.alloc (.cells (mV m) 29)).alloc (.cells zV 29)).heap[w.heap.size]? = some (bD m.ta m.tn m.tc m.ha m.hn m.hc m.ga m.gn m.gc m.fi m.mo m.fa m.fn m.fc m.da m.dn m.dc m.ea m.en m.ec):=ar B2 (heap_alloc_new w (.cells (mV m) 29));have rs : ((w.alloc (.cells (mV m) 29)).alloc (.cells zV 29)).heap[w.heap.size + 1]? = some (.cells zV 29):=alloc_at ak;have hB : Below w.heap.size w ((w.alloc (.cells (mV m) 29)).alloc (.cells zV 29)):=B1.trans (B2.mono ak);have hz : ((w.alloc (.cells (mV m) 29)).alloc (.cells zV 29)).heap.size = w.heap.size + 2:=ak
 have HM:=hid (fun (W : World) (hb : Below w.heap.size w W) => hm.later hb)
 have HW : (w.alloc (bD m.ta m.tn m.tc m.ha m.hn m.hc m.ga m.gn m.gc m.fi m.mo m.fa m.fn m.fc m.da m.dn m.dc m.ea m.en m.ec)).alloc (bD none 0 0 none 0 0 none 0 0 0 0 none 0 0 none 0 0 none 0 0) = (w.alloc (.cells (mV m) 29)).alloc (.cells zV 29):=rfl;have HT:=hid ht;clear hm B1 B2 ht;generalize (w.alloc (.cells (mV m) 29)).alloc (.cells zV 29) = W0 at *;have x0 : W0.cell? ⟨w.heap.size,0,none⟩ = some (.slice m.ta m.tn m.tc):=ai bx;have hsz : w.heap.size + 2 ≤ W0.heap.size:=ae;clear hz
 show Calls Tryz.prog 21 #[.agg #[.slice m.ta m.tn m.tc,.slice m.ha m.hn m.hc,.slice m.ga m.gn m.gc,.int .i64 m.fi,.int .i64 m.mo,.slice m.fa m.fn m.fc,.slice m.da m.dn m.dc,.slice m.ea m.en m.ec]] w _
 go_enter Tryz.func21,Tryz.ntmps21
 go_wp2_with fail;clear HW x0
 refine (P6 TB m.ta m.tn m.tc m.types W0 (HM.out _ hB).pt (by have:=(HM.out _ hB).tn; omega) (HT.out.later (hB.mono hTB)) (Nat.le_trans hTB hB.size)).mono ?_
 rintro e w1 ⟨rfl,ho,hb⟩;have ho:=dO ho (show w.heap.size + 2 ≤ W0.heap.size from hsz);have bx:=ar hb bx;have rs:=ar hb rs;have hB1 : Below w.heap.size w w1:=hB.trans (hb.mono hB.size);have hsz1 : w.heap.size + 2 ≤ w1.heap.size:=Nat.le_trans hsz hb.size;clear hb hB hsz;generalize W0.heap.size = BT at *;have x0 : w1.cell? ⟨w.heap.size,0,none⟩ = some (.slice m.ta m.tn m.tc):=ai bx;have g0 : w1.frozen? ⟨w.heap.size,0,none⟩ = false:=free_at bx;have x1 : w1.cell? ⟨w.heap.size,1,none⟩ = some (.slice m.ha m.hn m.hc):=ai bx;have hkS:=ay w1 w.heap.size 0 (.slice (some ⟨BT,0,none⟩) m.tn (m.tn + 64));have bx2 : (w1.setCell ⟨w.heap.size,0,none⟩ (.slice (some ⟨BT,0,none⟩) m.tn (m.tn + 64))).heap[w.heap.size]? = some (bD (some ⟨BT,0,none⟩) m.tn (m.tn + 64) m.ha m.hn m.hc m.ga m.gn m.gc m.fi m.mo m.fa m.fn m.fc m.da m.dn m.dc m.ea m.en m.ec):=bP bx;have rs2 : (w1.setCell ⟨w.heap.size,0,none⟩ (.slice (some ⟨BT,0,none⟩) m.tn (m.tn + 64))).heap[w.heap.size + 1]? = some (.cells zV 29):=(hkS.block _ ae ak).trans rs
 have hB2 : Below w.heap.size w (w1.setCell ⟨w.heap.size,0,none⟩ (.slice (some ⟨BT,0,none⟩) m.tn (m.tn + 64))):=hB1.trans (hkS.to_below (B:=w.heap.size) hB1.size (fun k hk hx => nS))
 have hs2 : w.heap.size + 2 ≤ (w1.setCell ⟨w.heap.size,0,none⟩ (.slice (some ⟨BT,0,none⟩) m.tn (m.tn + 64))).heap.size:=Nat.le_trans hsz1 hkS.size
 have RT:=hid (aL ho hkS (fun b hx => .inl cx))
 clear bx rs hB1 hsz1 ho;go_wp2_with fail;clear x0 g0 x1
 have bx:=bx2; have rs:=rs2; have hB:=hB2; have hsz:=hs2
 clear bx2 rs2 hB2 hs2 hkS;generalize w1.setCell ⟨w.heap.size,0,none⟩ (.slice (some ⟨BT,0,none⟩) m.tn (m.tn + 64)) = W1 at *
 refine (I7 0 m.ha m.hn m.hc m.hosts W1 (HM.out _ hB).ph (by have:=(HM.out _ hB).hn; omega)).mono ?_
 rintro e w2 ⟨rfl,ho,hb⟩;have ho:=dO ho (show w.heap.size + 2 ≤ W1.heap.size from hsz);have bx:=ar hb bx;have rs:=ar hb rs;have hB1 : Below w.heap.size w w2:=hB.trans (hb.mono hB.size);have hsz1 : w.heap.size + 2 ≤ w2.heap.size:=Nat.le_trans hsz hb.size
 have RT:=hid (aL RT.out (az hb) (fun _ h => False.elim h))
 clear hb hB hsz;generalize W1.heap.size = BH at *;have x1 : w2.cell? ⟨w.heap.size,1,none⟩ = some (.slice m.ha m.hn m.hc):=ai bx;have g1 : w2.frozen? ⟨w.heap.size,1,none⟩ = false:=free_at bx;have x2 : w2.cell? ⟨w.heap.size,2,none⟩ = some (.slice m.ga m.gn m.gc):=ai bx;have hkS:=ay w2 w.heap.size 1 (.slice (some ⟨BH,0,none⟩) m.hn (m.hn + 64));have bx2 : (w2.setCell ⟨w.heap.size,1,none⟩ (.slice (some ⟨BH,0,none⟩) m.hn (m.hn + 64))).heap[w.heap.size]? = some (bD (some ⟨BT,0,none⟩) m.tn (m.tn + 64) (some ⟨BH,0,none⟩) m.hn (m.hn + 64) m.ga m.gn m.gc m.fi m.mo m.fa m.fn m.fc m.da m.dn m.dc m.ea m.en m.ec):=bP bx;have rs2 : (w2.setCell ⟨w.heap.size,1,none⟩ (.slice (some ⟨BH,0,none⟩) m.hn (m.hn + 64))).heap[w.heap.size + 1]? = some (.cells zV 29):=(hkS.block _ ae ak).trans rs
 have hB2 : Below w.heap.size w (w2.setCell ⟨w.heap.size,1,none⟩ (.slice (some ⟨BH,0,none⟩) m.hn (m.hn + 64))):=hB1.trans (hkS.to_below (B:=w.heap.size) hB1.size (fun k hk hx => nS))
 have hs2 : w.heap.size + 2 ≤ (w2.setCell ⟨w.heap.size,1,none⟩ (.slice (some ⟨BH,0,none⟩) m.hn (m.hn + 64))).heap.size:=Nat.le_trans hsz1 hkS.size
 have RT:=hid (aL RT.out hkS (fun b hx => .inl cx))
 have RH:=hid (aL ho hkS (fun b hx => .inl cx))
 clear bx rs hB1 hsz1 ho;go_wp2_with fail;clear x1 g1 x2
 have bx:=bx2; have rs:=rs2; have hB:=hB2; have hsz:=hs2
 clear bx2 rs2 hB2 hs2 hkS;generalize w2.setCell ⟨w.heap.size,1,none⟩ (.slice (some ⟨BH,0,none⟩) m.hn (m.hn + 64)) = W2 at *
 refine (Pg 0 m.ga m.gn m.gc m.globals W2 (HM.out _ hB).pg (by have:=(HM.out _ hB).gn; omega)).mono ?_
 rintro e w3 ⟨rfl,ho,hb⟩;have ho:=dO ho (show w.heap.size + 2 ≤ W2.heap.size from hsz);have bx:=ar hb bx;have rs:=ar hb rs;have hB1 : Below w.heap.size w w3:=hB.trans (hb.mono hB.size);have hsz1 : w.heap.size + 2 ≤ w3.heap.size:=Nat.le_trans hsz hb.size
 have RT:=hid (aL RT.out (az hb) (fun _ h => False.elim h))
 have RH:=hid (aL RH.out (az hb) (fun _ h => False.elim h))
 clear hb hB hsz;generalize W2.heap.size = BG at *;have x2 : w3.cell? ⟨w.heap.size,2,none⟩ = some (.slice m.ga m.gn m.gc):=ai bx;have g2 : w3.frozen? ⟨w.heap.size,2,none⟩ = false:=free_at bx;have x5 : w3.cell? ⟨w.heap.size,5,none⟩ = some (.slice m.fa m.fn m.fc):=ai bx;have hkS:=ay w3 w.heap.size 2 (.slice (some ⟨BG,0,none⟩) m.gn (m.gn + 64));have bx2 : (w3.setCell ⟨w.heap.size,2,none⟩ (.slice (some ⟨BG,0,none⟩) m.gn (m.gn + 64))).heap[w.heap.size]? = some (bD (some ⟨BT,0,none⟩) m.tn (m.tn + 64) (some ⟨BH,0,none⟩) m.hn (m.hn + 64) (some ⟨BG,0,none⟩) m.gn (m.gn + 64) m.fi m.mo m.fa m.fn m.fc m.da m.dn m.dc m.ea m.en m.ec):=bP bx;have rs2 : (w3.setCell ⟨w.heap.size,2,none⟩ (.slice (some ⟨BG,0,none⟩) m.gn (m.gn + 64))).heap[w.heap.size + 1]? = some (.cells zV 29):=(hkS.block _ ae ak).trans rs
 have hB2 : Below w.heap.size w (w3.setCell ⟨w.heap.size,2,none⟩ (.slice (some ⟨BG,0,none⟩) m.gn (m.gn + 64))):=hB1.trans (hkS.to_below (B:=w.heap.size) hB1.size (fun k hk hx => nS))
 have hs2 : w.heap.size + 2 ≤ (w3.setCell ⟨w.heap.size,2,none⟩ (.slice (some ⟨BG,0,none⟩) m.gn (m.gn + 64))).heap.size:=Nat.le_trans hsz1 hkS.size
 have RT:=hid (aL RT.out hkS (fun b hx => .inl cx))
 have RH:=hid (aL RH.out hkS (fun b hx => .inl cx))
 have RG:=hid (aL ho hkS (fun b hx => .inl cx))
 clear bx rs hB1 hsz1 ho;go_wp2_with fail;clear x2 g2 x5
 have bx:=bx2; have rs:=rs2; have hB:=hB2; have hsz:=hs2
 clear bx2 rs2 hB2 hs2 hkS;generalize w3.setCell ⟨w.heap.size,2,none⟩ (.slice (some ⟨BG,0,none⟩) m.gn (m.gn + 64)) = W3 at *;refine (Ol m.fa m.fn m.fc m.fns W3 (HM.out _ hB).pf (HM.out _ hB).fn (HM.out _ hB).fx).mono ?_;rintro e w4 ⟨fs,rfl,hyl,ho,hwd,hsm,hb⟩;have HF:=hid (And.intro hyl hsm);clear hyl hsm;have ho:=dO ho (show w.heap.size + 2 ≤ W3.heap.size from hsz)
 have hwe : ∀ y ∈ fs,jK w4 (w.heap.size + 2) y:=fun y hy => (hwd y hy).low ae
 clear hwd;have bx:=ar hb bx;have rs:=ar hb rs;have hB1 : Below w.heap.size w w4:=hB.trans (hb.mono hB.size);have hsz1 : w.heap.size + 2 ≤ w4.heap.size:=Nat.le_trans hsz hb.size
 have RT:=hid (aL RT.out (az hb) (fun _ h => False.elim h))
 have RH:=hid (aL RH.out (az hb) (fun _ h => False.elim h))
 have RG:=hid (aL RG.out (az hb) (fun _ h => False.elim h))
 clear hb hB hsz;generalize W3.heap.size = BF at *;have x5 : w4.cell? ⟨w.heap.size,5,none⟩ = some (.slice m.fa m.fn m.fc):=ai bx;have g5 : w4.frozen? ⟨w.heap.size,5,none⟩ = false:=free_at bx;have x6 : w4.cell? ⟨w.heap.size,6,none⟩ = some (.slice m.da m.dn m.dc):=ai bx;have hkS:=ay w4 w.heap.size 5 (.slice (some ⟨BF,0,none⟩) m.fn (m.fn + 64));have bx2 : (w4.setCell ⟨w.heap.size,5,none⟩ (.slice (some ⟨BF,0,none⟩) m.fn (m.fn + 64))).heap[w.heap.size]? = some (bD (some ⟨BT,0,none⟩) m.tn (m.tn + 64) (some ⟨BH,0,none⟩) m.hn (m.hn + 64) (some ⟨BG,0,none⟩) m.gn (m.gn + 64) m.fi m.mo (some ⟨BF,0,none⟩) m.fn (m.fn + 64) m.da m.dn m.dc m.ea m.en m.ec):=bP bx;have rs2 : (w4.setCell ⟨w.heap.size,5,none⟩ (.slice (some ⟨BF,0,none⟩) m.fn (m.fn + 64))).heap[w.heap.size + 1]? = some (.cells zV 29):=(hkS.block _ ae ak).trans rs
 have hB2 : Below w.heap.size w (w4.setCell ⟨w.heap.size,5,none⟩ (.slice (some ⟨BF,0,none⟩) m.fn (m.fn + 64))):=hB1.trans (hkS.to_below (B:=w.heap.size) hB1.size (fun k hk hx => nS))
 have hs2 : w.heap.size + 2 ≤ (w4.setCell ⟨w.heap.size,5,none⟩ (.slice (some ⟨BF,0,none⟩) m.fn (m.fn + 64))).heap.size:=Nat.le_trans hsz1 hkS.size
 have RT:=hid (aL RT.out hkS (fun b hx => .inl cx))
 have RH:=hid (aL RH.out hkS (fun b hx => .inl cx))
 have RG:=hid (aL RG.out hkS (fun b hx => .inl cx))
 have RF:=hid (aL ho hkS (fun b hx => .inl cx))
 have VF:=hid (fun y hy => (hwe y hy).stay hkS (fun b hx => .inl cx))
 clear bx rs hB1 hsz1 ho hwe;go_wp2_with fail;clear x5 g5 x6
 have bx:=bx2; have rs:=rs2; have hB:=hB2; have hsz:=hs2
 clear bx2 rs2 hB2 hs2 hkS;generalize w4.setCell ⟨w.heap.size,5,none⟩ (.slice (some ⟨BF,0,none⟩) m.fn (m.fn + 64)) = W4 at *;refine (N9 m.da m.dn m.dc m.data W4 (HM.out _ hB).pd (HM.out _ hB).dn (HM.out _ hB).dx).mono ?_;rintro e w5 ⟨ds,rfl,hyl,ho,hwd,hsm,hb⟩;have HD:=hid (And.intro hyl hsm);clear hyl hsm;have ho:=dO ho (show w.heap.size + 2 ≤ W4.heap.size from hsz)
 have hwe : ∀ y ∈ ds,jI w5 (w.heap.size + 2) y:=fun y hy => (hwd y hy).low ae
 clear hwd;have bx:=ar hb bx;have rs:=ar hb rs;have hB1 : Below w.heap.size w w5:=hB.trans (hb.mono hB.size);have hsz1 : w.heap.size + 2 ≤ w5.heap.size:=Nat.le_trans hsz hb.size
 have RT:=hid (aL RT.out (az hb) (fun _ h => False.elim h))
 have RH:=hid (aL RH.out (az hb) (fun _ h => False.elim h))
 have RG:=hid (aL RG.out (az hb) (fun _ h => False.elim h))
 have RF:=hid (aL RF.out (az hb) (fun _ h => False.elim h))
 have VF:=hid (fun y hy => (VF.out y hy).stay (az hb) (fun _ h => False.elim h))
 clear hb hB hsz;generalize W4.heap.size = BD at *;have x6 : w5.cell? ⟨w.heap.size,6,none⟩ = some (.slice m.da m.dn m.dc):=ai bx;have g6 : w5.frozen? ⟨w.heap.size,6,none⟩ = false:=free_at bx;have x7 : w5.cell? ⟨w.heap.size,7,none⟩ = some (.slice m.ea m.en m.ec):=ai bx;have hkS:=ay w5 w.heap.size 6 (.slice (some ⟨BD,0,none⟩) m.dn (m.dn + 64));have bx2 : (w5.setCell ⟨w.heap.size,6,none⟩ (.slice (some ⟨BD,0,none⟩) m.dn (m.dn + 64))).heap[w.heap.size]? = some (bD (some ⟨BT,0,none⟩) m.tn (m.tn + 64) (some ⟨BH,0,none⟩) m.hn (m.hn + 64) (some ⟨BG,0,none⟩) m.gn (m.gn + 64) m.fi m.mo (some ⟨BF,0,none⟩) m.fn (m.fn + 64) (some ⟨BD,0,none⟩) m.dn (m.dn + 64) m.ea m.en m.ec):=bP bx;have rs2 : (w5.setCell ⟨w.heap.size,6,none⟩ (.slice (some ⟨BD,0,none⟩) m.dn (m.dn + 64))).heap[w.heap.size + 1]? = some (.cells zV 29):=(hkS.block _ ae ak).trans rs
 have hB2 : Below w.heap.size w (w5.setCell ⟨w.heap.size,6,none⟩ (.slice (some ⟨BD,0,none⟩) m.dn (m.dn + 64))):=hB1.trans (hkS.to_below (B:=w.heap.size) hB1.size (fun k hk hx => nS))
 have hs2 : w.heap.size + 2 ≤ (w5.setCell ⟨w.heap.size,6,none⟩ (.slice (some ⟨BD,0,none⟩) m.dn (m.dn + 64))).heap.size:=Nat.le_trans hsz1 hkS.size
 have RT:=hid (aL RT.out hkS (fun b hx => .inl cx))
 have RH:=hid (aL RH.out hkS (fun b hx => .inl cx))
 have RG:=hid (aL RG.out hkS (fun b hx => .inl cx))
 have RF:=hid (aL RF.out hkS (fun b hx => .inl cx))
 have VF:=hid (fun y hy => (VF.out y hy).stay hkS (fun b hx => .inl cx))
 have RD:=hid (aL ho hkS (fun b hx => .inl cx))
 have VD:=hid (fun y hy => (hwe y hy).stay hkS (fun b hx => .inl cx))
 clear bx rs hB1 hsz1 ho hwe;go_wp2_with fail;clear x6 g6 x7
 have bx:=bx2; have rs:=rs2; have hB:=hB2; have hsz:=hs2
 clear bx2 rs2 hB2 hs2 hkS;generalize w5.setCell ⟨w.heap.size,6,none⟩ (.slice (some ⟨BD,0,none⟩) m.dn (m.dn + 64)) = W5 at *
 refine (N5 TB m.ea m.en m.ec m.exps W5 (HM.out _ hB).pe (by have:=(HM.out _ hB).en; omega) (HT.out.later (hB.mono hTB)) (Nat.le_trans hTB hB.size)).mono ?_
 rintro e w6 ⟨rfl,ho,hb⟩;have ho:=dO ho (show w.heap.size + 2 ≤ W5.heap.size from hsz);have bx:=ar hb bx;have rs:=ar hb rs;have hB1 : Below w.heap.size w w6:=hB.trans (hb.mono hB.size);have hsz1 : w.heap.size + 2 ≤ w6.heap.size:=Nat.le_trans hsz hb.size
 have RT:=hid (aL RT.out (az hb) (fun _ h => False.elim h))
 have RH:=hid (aL RH.out (az hb) (fun _ h => False.elim h))
 have RG:=hid (aL RG.out (az hb) (fun _ h => False.elim h))
 have RF:=hid (aL RF.out (az hb) (fun _ h => False.elim h))
 have VF:=hid (fun y hy => (VF.out y hy).stay (az hb) (fun _ h => False.elim h))
 have RD:=hid (aL RD.out (az hb) (fun _ h => False.elim h))
 have VD:=hid (fun y hy => (VD.out y hy).stay (az hb) (fun _ h => False.elim h))
 clear hb hB hsz;generalize W5.heap.size = BE at *;have x7 : w6.cell? ⟨w.heap.size,7,none⟩ = some (.slice m.ea m.en m.ec):=ai bx;have g7 : w6.frozen? ⟨w.heap.size,7,none⟩ = false:=free_at bx;have x0 : w6.cell? ⟨w.heap.size,0,none⟩ = some (.slice (some ⟨BT,0,none⟩) m.tn (m.tn + 64)):=ai bx;have x1 : w6.cell? ⟨w.heap.size,1,none⟩ = some (.slice (some ⟨BH,0,none⟩) m.hn (m.hn + 64)):=ai bx;have x2 : w6.cell? ⟨w.heap.size,2,none⟩ = some (.slice (some ⟨BG,0,none⟩) m.gn (m.gn + 64)):=ai bx;have x3 : w6.cell? ⟨w.heap.size,3,none⟩ = some (.int .i64 m.fi):=ai bx;have x4 : w6.cell? ⟨w.heap.size,4,none⟩ = some (.int .i64 m.mo):=ai bx;have x5 : w6.cell? ⟨w.heap.size,5,none⟩ = some (.slice (some ⟨BF,0,none⟩) m.fn (m.fn + 64)):=ai bx;have x6 : w6.cell? ⟨w.heap.size,6,none⟩ = some (.slice (some ⟨BD,0,none⟩) m.dn (m.dn + 64)):=ai bx;have y0 : w6.cell? ⟨w.heap.size + 1,0,none⟩ = some (.slice none 0 0):=ai rs;have f0 : w6.frozen? ⟨w.heap.size + 1,0,none⟩ = false:=free_at rs;have y1 : w6.cell? ⟨w.heap.size + 1,1,none⟩ = some (.slice none 0 0):=ai rs;have f1 : w6.frozen? ⟨w.heap.size + 1,1,none⟩ = false:=free_at rs;have y2 : w6.cell? ⟨w.heap.size + 1,2,none⟩ = some (.slice none 0 0):=ai rs;have f2 : w6.frozen? ⟨w.heap.size + 1,2,none⟩ = false:=free_at rs;have y3 : w6.cell? ⟨w.heap.size + 1,3,none⟩ = some (.int .i64 0):=ai rs;have f3 : w6.frozen? ⟨w.heap.size + 1,3,none⟩ = false:=free_at rs;have y4 : w6.cell? ⟨w.heap.size + 1,4,none⟩ = some (.int .i64 0):=ai rs;have f4 : w6.frozen? ⟨w.heap.size + 1,4,none⟩ = false:=free_at rs;have y5 : w6.cell? ⟨w.heap.size + 1,5,none⟩ = some (.slice none 0 0):=ai rs;have f5 : w6.frozen? ⟨w.heap.size + 1,5,none⟩ = false:=free_at rs;have y6 : w6.cell? ⟨w.heap.size + 1,6,none⟩ = some (.slice none 0 0):=ai rs;have f6 : w6.frozen? ⟨w.heap.size + 1,6,none⟩ = false:=free_at rs;have y7 : w6.cell? ⟨w.heap.size + 1,7,none⟩ = some (.slice none 0 0):=ai rs;have f7 : w6.frozen? ⟨w.heap.size + 1,7,none⟩ = false:=free_at rs
 have hkS:=ay w6 w.heap.size 7 (.slice (some ⟨BE,0,none⟩) m.en (m.en + 64));have bx2 : (w6.setCell ⟨w.heap.size,7,none⟩ (.slice (some ⟨BE,0,none⟩) m.en (m.en + 64))).heap[w.heap.size]? = some (bD (some ⟨BT,0,none⟩) m.tn (m.tn + 64) (some ⟨BH,0,none⟩) m.hn (m.hn + 64) (some ⟨BG,0,none⟩) m.gn (m.gn + 64) m.fi m.mo (some ⟨BF,0,none⟩) m.fn (m.fn + 64) (some ⟨BD,0,none⟩) m.dn (m.dn + 64) (some ⟨BE,0,none⟩) m.en (m.en + 64)):=bP bx;have rs2 : (w6.setCell ⟨w.heap.size,7,none⟩ (.slice (some ⟨BE,0,none⟩) m.en (m.en + 64))).heap[w.heap.size + 1]? = some (.cells zV 29):=(hkS.block _ ae ak).trans rs
 have hB2 : Below w.heap.size w (w6.setCell ⟨w.heap.size,7,none⟩ (.slice (some ⟨BE,0,none⟩) m.en (m.en + 64))):=hB1.trans (hkS.to_below (B:=w.heap.size) hB1.size (fun k hk hx => nS))
 have hs2 : w.heap.size + 2 ≤ (w6.setCell ⟨w.heap.size,7,none⟩ (.slice (some ⟨BE,0,none⟩) m.en (m.en + 64))).heap.size:=Nat.le_trans hsz1 hkS.size
 have RT:=hid (aL RT.out hkS (fun b hx => .inl cx))
 have RH:=hid (aL RH.out hkS (fun b hx => .inl cx))
 have RG:=hid (aL RG.out hkS (fun b hx => .inl cx))
 have RF:=hid (aL RF.out hkS (fun b hx => .inl cx))
 have VF:=hid (fun y hy => (VF.out y hy).stay hkS (fun b hx => .inl cx))
 have RD:=hid (aL RD.out hkS (fun b hx => .inl cx))
 have VD:=hid (fun y hy => (VD.out y hy).stay hkS (fun b hx => .inl cx))
 have RE:=hid (aL ho hkS (fun b hx => .inl cx))
 clear bx rs hB1 hsz1 ho;clear bx2 hkS;go_wp2_with fail;generalize hWN : w6.setCell ⟨w.heap.size,7,none⟩ (.slice (some ⟨BE,0,none⟩) m.en (m.en + 64)) = WN at *
 have hkR : Kept (fun k => k = w.heap.size + 1) WN ((((((((WN.setCell ⟨w.heap.size + 1,0,none⟩ (.slice (some ⟨BT,0,none⟩) m.tn (m.tn + 64))).setCell ⟨w.heap.size + 1,1,none⟩ (.slice (some ⟨BH,0,none⟩) m.hn (m.hn + 64))).setCell ⟨w.heap.size + 1,2,none⟩ (.slice (some ⟨BG,0,none⟩) m.gn (m.gn + 64))).setCell ⟨w.heap.size + 1,3,none⟩ (.int .i64 m.fi)).setCell ⟨w.heap.size + 1,4,none⟩ (.int .i64 m.mo)).setCell ⟨w.heap.size + 1,5,none⟩ (.slice (some ⟨BF,0,none⟩) m.fn (m.fn + 64))).setCell ⟨w.heap.size + 1,6,none⟩ (.slice (some ⟨BD,0,none⟩) m.dn (m.dn + 64))).setCell ⟨w.heap.size + 1,7,none⟩ (.slice (some ⟨BE,0,none⟩) m.en (m.en + 64))):=((((((((ay WN (w.heap.size + 1) 0 (.slice (some ⟨BT,0,none⟩) m.tn (m.tn + 64))).trans (ay _ (w.heap.size + 1) 1 (.slice (some ⟨BH,0,none⟩) m.hn (m.hn + 64)))).trans (ay _ (w.heap.size + 1) 2 (.slice (some ⟨BG,0,none⟩) m.gn (m.gn + 64)))).trans (ay _ (w.heap.size + 1) 3 (.int .i64 m.fi))).trans (ay _ (w.heap.size + 1) 4 (.int .i64 m.mo))).trans (ay _ (w.heap.size + 1) 5 (.slice (some ⟨BF,0,none⟩) m.fn (m.fn + 64)))).trans (ay _ (w.heap.size + 1) 6 (.slice (some ⟨BD,0,none⟩) m.dn (m.dn + 64)))).trans (ay _ (w.heap.size + 1) 7 (.slice (some ⟨BE,0,none⟩) m.en (m.en + 64))))
 have hrs : ((((((((WN.setCell ⟨w.heap.size + 1,0,none⟩ (.slice (some ⟨BT,0,none⟩) m.tn (m.tn + 64))).setCell ⟨w.heap.size + 1,1,none⟩ (.slice (some ⟨BH,0,none⟩) m.hn (m.hn + 64))).setCell ⟨w.heap.size + 1,2,none⟩ (.slice (some ⟨BG,0,none⟩) m.gn (m.gn + 64))).setCell ⟨w.heap.size + 1,3,none⟩ (.int .i64 m.fi)).setCell ⟨w.heap.size + 1,4,none⟩ (.int .i64 m.mo)).setCell ⟨w.heap.size + 1,5,none⟩ (.slice (some ⟨BF,0,none⟩) m.fn (m.fn + 64))).setCell ⟨w.heap.size + 1,6,none⟩ (.slice (some ⟨BD,0,none⟩) m.dn (m.dn + 64))).setCell ⟨w.heap.size + 1,7,none⟩ (.slice (some ⟨BE,0,none⟩) m.en (m.en + 64))).heap[w.heap.size + 1]? = some (bD (some ⟨BT,0,none⟩) m.tn (m.tn + 64) (some ⟨BH,0,none⟩) m.hn (m.hn + 64) (some ⟨BG,0,none⟩) m.gn (m.gn + 64) m.fi m.mo (some ⟨BF,0,none⟩) m.fn (m.fn + 64) (some ⟨BD,0,none⟩) m.dn (m.dn + 64) (some ⟨BE,0,none⟩) m.en (m.en + 64)):=bP (bP (bP (bP (bP (bP (bP (bP (rs2))))))));generalize ((((((((WN.setCell ⟨w.heap.size + 1,0,none⟩ (.slice (some ⟨BT,0,none⟩) m.tn (m.tn + 64))).setCell ⟨w.heap.size + 1,1,none⟩ (.slice (some ⟨BH,0,none⟩) m.hn (m.hn + 64))).setCell ⟨w.heap.size + 1,2,none⟩ (.slice (some ⟨BG,0,none⟩) m.gn (m.gn + 64))).setCell ⟨w.heap.size + 1,3,none⟩ (.int .i64 m.fi)).setCell ⟨w.heap.size + 1,4,none⟩ (.int .i64 m.mo)).setCell ⟨w.heap.size + 1,5,none⟩ (.slice (some ⟨BF,0,none⟩) m.fn (m.fn + 64))).setCell ⟨w.heap.size + 1,6,none⟩ (.slice (some ⟨BD,0,none⟩) m.dn (m.dn + 64))).setCell ⟨w.heap.size + 1,7,none⟩ (.slice (some ⟨BE,0,none⟩) m.en (m.en + 64))) = WF at *;have r0 : WF.cell? ⟨w.heap.size + 1,0,none⟩ = some (.slice (some ⟨BT,0,none⟩) m.tn (m.tn + 64)):=ai hrs;have r1 : WF.cell? ⟨w.heap.size + 1,1,none⟩ = some (.slice (some ⟨BH,0,none⟩) m.hn (m.hn + 64)):=ai hrs;have r2 : WF.cell? ⟨w.heap.size + 1,2,none⟩ = some (.slice (some ⟨BG,0,none⟩) m.gn (m.gn + 64)):=ai hrs;have r3 : WF.cell? ⟨w.heap.size + 1,3,none⟩ = some (.int .i64 m.fi):=ai hrs;have r4 : WF.cell? ⟨w.heap.size + 1,4,none⟩ = some (.int .i64 m.mo):=ai hrs
 have r5 : WF.cell? ⟨w.heap.size + 1,5,none⟩ = some (.slice (some ⟨BF,0,none⟩) m.fn (m.fn + 64)):=ai hrs;have r6 : WF.cell? ⟨w.heap.size + 1,6,none⟩ = some (.slice (some ⟨BD,0,none⟩) m.dn (m.dn + 64)):=ai hrs;have r7 : WF.cell? ⟨w.heap.size + 1,7,none⟩ = some (.slice (some ⟨BE,0,none⟩) m.en (m.en + 64)):=ai hrs
 refine bodyPost_ret (v:=.agg #[.slice (some ⟨BT,0,none⟩) m.tn (m.tn + 64),.slice (some ⟨BH,0,none⟩) m.hn (m.hn + 64),.slice (some ⟨BG,0,none⟩) m.gn (m.gn + 64),.int .i64 m.fi,.int .i64 m.mo,.slice (some ⟨BF,0,none⟩) m.fn (m.fn + 64),.slice (some ⟨BD,0,none⟩) m.dn (m.dn + 64),.slice (some ⟨BE,0,none⟩) m.en (m.en + 64)]) (by simp [results,Tryz.results21,go_sem,r0,r1,r2,r3,r4,r5,r6,r7]) rfl ⟨BT,BH,BG,BF,BD,BE,fs,ds,rfl,⟨aL RT.out hkR (fun b hx => .inl kj),aL RH.out hkR (fun b hx => .inl kj),aL RG.out hkR (fun b hx => .inl kj),aL RF.out hkR (fun b hx => .inl kj),aL RD.out hkR (fun b hx => .inl kj),aL RE.out hkR (fun b hx => .inl kj),fun y hy => (VF.out y hy).stay hkR (fun b hx => .inl kj),fun y hy => (VD.out y hy).stay hkR (fun b hx => .inl kj),HF.out.1,HD.out.1,HF.out.2,HD.out.2⟩,hB2.trans (hkR.to_below (B:=w.heap.size) hB2.size (fun k hk hx => by have : k = w.heap.size + 1:=hx; omega))⟩
end Go.Proofs.YtepnnenohjfkbaaGreatDoor
