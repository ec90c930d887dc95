/-
  Texts Cc Cd.
-/
import Derived.Test.YtkdldbfbldkkcaaGreatDoorM00
import Derived.Test.YtkdldbfbldkkcaaGreatDoorM03
import Derived.Test.YtkdldbfbldkkcaaGreatDoorM42
set_option linter.unusedVariables false
set_option maxRecDepth 100000
set_option maxHeartbeats 16000000
namespace Go.Proofs.YtkdldbfbldkkcaaGreatDoor
open Go.RowKit
theorem LW (k : Nat) (c : Int) (B : Nat) (a : Option Addr) (n cap : Nat) (zs : List Int) (w : World) (hm : w.cell? ⟨B,0,none⟩ = some (.slice a n cap)) (hs : SI .u64 w a n zs) (hn : n ≤ 1099511627776) (hk : k < n) :
  Calls Tryz.prog 85 #[.int .i64 k,.int .u8 c,pt B] w fun e w' => e = .returned (.bool (eu (zs.getD k 0) c)) ∧ w' = w:=by
 rcases hs.2 with h5 | ⟨b,off,rfl,hc⟩
 ·omega
 have hl:=hs.1;have hx : zs[k]? = some (zs[k]'(ae)):=ba _;have hcell:=hc k _ hx
 have e : zs.getD k 0 = zs[k]'(ae):=by rw [List.getD_eq_getElem?_getD,hx]; rfl
 rw [e];generalize zs[k]'(ae) = v at *;have hk' : (k : Int) < n:=ae;clear hc hx e hs
 go_enter Tryz.func85,Tryz.ntmps85
 go_wp2_with fail;refine (xf _ _ _).mono ?_;rintro e w1 ⟨rfl,rfl⟩;exact oC
theorem tA (a : Option Addr) (n cap : Nat) (zs : List Int) (s : ByteArray) (w : World) (h : SI .u64 w a n zs) (hn : n ≤ 1099511627776) (hs : s.size ≤ 1073741824) :
  Calls Tryz.prog 65 #[.slice a n cap,.string s] w fun e w' => e = .returned (.bool (nY zs s)) ∧ Below w.heap.size w w':=by
 have hmf : ∀ (fn : Fn) (first cap : Array Value) (w : World),(Instr.makeFunc fn first cap).run Tryz.prog w = .ok (.func fn first cap) w:=fun _ _ _ _ => rfl
 have hb0 : Below w.heap.size w (w.alloc (.cells #[.slice a n cap] 31)):=(Below.refl _ _).alloc (Nat.le_refl _) _
 by_cases hne : n = s.size
 ·have hne' : (n : Int) = s.size:=ae
  have HE:=hid (EP s 85 w.heap.size (fun i => eu (zs.getD i 0) (ic s i)) (w.alloc (.cells #[.slice a n cap] 31)) hs (fun _ _ => by rfl) (fun pos i hi _ => by
   rw [lT s i hi];have hbi : Below (w.heap.size + 1) (w.alloc (.cells #[.slice a n cap] 31)) ((w.alloc (.cells #[.slice a n cap] 31)).iter s pos):=(Below.refl _ _).alloc au _;refine LW i _ w.heap.size a n cap zs _ ?_ ((h.later hb0).later (hbi.mono au)) hn ae
   rw [hbi.cell au,World.cell?_alloc_at _ _ _ _ rfl]; rfl))
  have HL:=hid h.1;clear h;subst hne
  go_enter Tryz.func65,Tryz.ntmps65
  go_wp2_with fail;refine HE.out.mono ?_;rintro e w1 ⟨b,pos,rfl,hb,rfl⟩
  have hbl : b = nY zs s:=by
   rw [Bool.eq_iff_iff,hb,lS]
   exact ⟨fun h => ⟨HL.out,fun i hi => (h i hi).2⟩,fun h i hi => ⟨GI (h.2 i hi),h.2 i hi⟩⟩
  subst hbl;go_wp2;go_ret;exact ⟨rfl,hb0.alloc au _⟩
 ·have hne' : ((n : Int) == (s.size : Int)) = false:=by simpa using fun h : (n : Int) = s.size => hne ae
  have hf : nY zs s = false:=by
   rw [← Bool.not_eq_true,lS,h.1]; exact fun h' => hne h'.1
  clear h
  go_enter Tryz.func65,Tryz.ntmps65
  go_wp2
  all_goals go_ret
  all_goals exact ⟨by rw [hf]; rfl,hb0⟩
def qX (m : MM) (y : FuM) : List ByteArray:=match m.types[y.1.toNat]? with
 | some p => (stA m (aL (p.1 ++ y.2.1)) (y.2.2.2.map inx) p.2 y.2.2.1.2.1 y.2.2.1.2.1).sh
 | none => []
def TbC (m : MM) (TT : Nat) (w : World) : Prop:=∀ (i : Nat) y,m.fns[i]? = some y → ∃ SH,w.cell? ⟨TT,i * 5,none⟩ = some (.slice (some ⟨SH,0,none⟩) y.2.2.1.2.1 y.2.2.1.2.1) ∧ (qX m y).length = y.2.2.1.2.1 ∧ ∀ (p : Nat) b,(qX m y)[p]? = some b → w.cell? ⟨SH,p,none⟩ = some (.string b)
theorem TbC.later {m : MM} {TT : Nat} {w w' : World} (h : TbC m TT w) (hb : Below w.heap.size w w') : TbC m TT w':=fun i y hy => by
 obtain ⟨SH,h1,h2,h3⟩:=h i y hy
 exact ⟨SH,ag hb h1,h2,fun p b hp => ag hb (h3 p b hp)⟩
theorem Mc {m : MM} {TT : Nat} {w : World} {arr : Array Value} (hA : w.heap[TT]? = some (.cells arr 86)) (ht : ∀ (i : Nat) y,m.fns[i]? = some y → ∃ t,qY m y (TT + 1) w t ∧ ∀ q,q < 5 → arr[i * 5 + q]? = t[q]?) : TbC m TT w:=fun i y hy => by
 obtain ⟨t,⟨_,P,Q,hP,_,SH,EN,EL,FL,_,_,_,_,rfl,r1,_⟩,hq⟩:=ht i y hy
 have hs : qX m y = (stA m (aL (P ++ y.2.1)) (y.2.2.2.map inx) Q y.2.2.1.2.1 y.2.2.1.2.1).sh:=by unfold qX; rw [hP]
 refine ⟨SH,?_,?_,fun p b hp => ?_⟩
 ·rw [ai hA]; exact hq 0 ae
 ·rw [hs]; have:=r1.1; simpa using this
 ·have hl:=az hp;rw [hs] at hp hl
  have hn : p < y.2.2.1.2.1:=by have:=r1.1; simp at this; omega
  rw [r1.cell p hn,List.getElem?_map,hp]; rfl
theorem dK {P : Program} {ops : Array Oper} {Q : Exit → Act → World → Prop} {md : Region.Mode} {S : World → Prop} {i : Nat} {oi : Oper} {v : Value} {fuel : Nat} {listed : Array Bool} {a : Act} {w : World} (hi : ops[i]? = some oi) (h : wpAnyH P md ops Q S fuel (listed.setIfInBounds i true) (a.put oi.dst v) w) (hv : ∀ w,S w → (execOp a.eval oi).run P w = .ok (.value v) w:=by (intro w h; (try dsimp only at h); go_simp; try with_reducible rfl))
  (hc : (Region.noSelect ops && Region.free md ops listed i && (Region.ready md ops listed).contains i) = true:=by kernel_rfl) (hw : Region.wanted oi (yielded ops a.tmps) = true:=by rfl) (hQ : ∀ c a w,Q (.panic c) (a.put oi.dst v) w → Q (.panic c) a w:=by exact fun _ _ _ h => h) (hS : S w:=by assumption) : wpAnyH P md ops Q S (fuel + 1) listed a w:=by
 simp only [Bool.and_eq_true] at hc
 exact rX
theorem dO {P : Program} {ops : Array Oper} {Q : Exit → Act → World → Prop} {md : Region.Mode} {S : World → Prop} {i : Nat} {o : Oper} {fuel : Nat} {listed : Array Bool} {a : Act} {w : World} {rs : List Nat} (ho : ops[i]? = some o) (h : ∀ K : Act → World → Prop,Shut (∀ a w,S w → (S w → wpAnyH P md ops Q S fuel (listed.setIfInBounds i true) a w) → K a w) → Oper.wp P o a w K Q) (hs : AllReadyH P md ops Q S fuel listed a w rs) (hw : Region.wanted o (yielded ops a.tmps) = true:=by rfl) : AllReadyH P md ops Q S fuel listed a w (i :: rs):=AllReadyH.cons ho (fun K hK => uu) hs
theorem eZ {P : Program} {ops : Array Oper} {Q : Exit → Act → World → Prop} {md : Region.Mode} {S : World → Prop} {rs : List Nat} {fuel : Nat} {listed : Array Bool} {a : Act} {w : World} (h : AllReadyH P md ops Q S fuel listed a w rs) (hr : Region.ready md ops listed = rs:=by kernel_rfl) (hne : rs ≠ []:=by simp) : wpAnyH P md ops Q S (fuel + 1) listed a w:=wpAnyH_ready hr hne h
theorem gF {w : World} {n : Nat} {o : Obj} (h : w.heap.size = n) : (w.alloc o).heap[n]? = some o:=by rw [← h]; exact heap_alloc_new w o
theorem tkN {P : Program} {ops : Array Oper} {Q : Exit → Act → World → Prop} {md : Region.Mode} {S : World → Prop} {i : Nat} {oi : Oper} {fuel : Nat} {listed : Array Bool} {a : Act} {w : World} (hi : ops[i]? = some oi) (h : wpAnyH P md ops Q S fuel (listed.setIfInBounds i true) (a.put oi.dst undef) w)
  (hc : (Region.noSelect ops && Region.free md ops listed i && (Region.ready md ops listed).contains i) = true:=by kernel_rfl) (hw : Region.wanted oi (yielded ops a.tmps) = false:=by rfl) (hQ : ∀ c a w,Q (.panic c) (a.put oi.dst undef) w → Q (.panic c) a w:=by exact fun _ _ _ h => h) (hS : S w:=by assumption) : wpAnyH P md ops Q S (fuel + 1) listed a w:=by
 simp only [Bool.and_eq_true] at hc
 exact wpAnyH_take hi hc.1.1 hc.1.2 hc.2 hQ (Or.inr ⟨hw,rfl⟩) hS h
theorem G1 (m : MM) (tv : Value) (gb go_ fl fc : Nat) (f0 f1 : Int) (la sa : Option Addr) (ln lc sn sc : Nat) (w : World) (hfl : 0 < fl) (h0 : w.cell? ⟨gb,go_,none⟩ = some (.int .i64 f0)) (h1 : w.cell? ⟨gb,go_ + 1,none⟩ = some (.int .i64 f1)) (h2 : w.cell? ⟨gb,go_ + 2,none⟩ = some (.slice la ln lc)) (h3 : w.cell? ⟨gb,go_ + 3,none⟩ = some (.slice sa sn sc)) (hr : (decide (0 ≤ f0) && decide (f0 < (m.fn : Int))) = false) :
  Calls Tryz.prog 38 #[.agg (mV m),tv,.slice (some ⟨gb,go_,none⟩) fl fc] w fun e w' => e = .returned (.bool false) ∧ Below w.heap.size w w':=by
 show Calls Tryz.prog 38 #[.agg #[.slice m.ta m.tn m.tc,.slice m.ha m.hn m.hc,.slice m.ga m.gn m.gc,.int .i64 m.fi,.int .i64 m.mo,.slice m.fa m.fn m.fc,.slice m.da m.dn m.dc,.slice m.ea m.en m.ec],tv,.slice (some ⟨gb,go_,none⟩) fl fc] w _
 have B1:=aj w (aR m.ta m.tn m.tc m.ha m.hn m.hc m.ga m.gn m.gc m.fi m.mo m.fa m.fn m.fc m.da m.dn m.dc m.ea m.en m.ec);have B2:=aj (w.alloc (aR m.ta m.tn m.tc m.ha m.hn m.hc m.ga m.gn m.gc m.fi m.mo m.fa m.fn m.fc m.da m.dn m.dc m.ea m.en m.ec)) (bo f0 f1 la ln lc sa sn sc);have HB:=hid (B1.trans (B2.mono B1.size));have g0:=ag B1 h0;have g1:=ag B1 h1;have g2:=ag B1 h2;have g3:=ag B1 h3;have c5 : ((w.alloc (aR m.ta m.tn m.tc m.ha m.hn m.hc m.ga m.gn m.gc m.fi m.mo m.fa m.fn m.fc m.da m.dn m.dc m.ea m.en m.ec)).alloc (bo f0 f1 la ln lc sa sn sc)).cell? ⟨w.heap.size,5,none⟩ = some (.slice m.fa m.fn m.fc):=ag B2 (ai (heap_alloc_new w (aR m.ta m.tn m.tc m.ha m.hn m.hc m.ga m.gn m.gc m.fi m.mo m.fa m.fn m.fc m.da m.dn m.dc m.ea m.en m.ec)));have hfl' : (0 : Int) < (fl : Int):=ae
 have HI:=hid (fun (W : World) => c64 f0 m.fn W)
 rw [hr] at HI;clear B1 B2 h0 h1 h2 h3 hr
 go_enter Tryz.func38,Tryz.ntmps38
 go_wp2_with fail;refine (HI.out _).mono ?_;rintro e w2 ⟨rfl,hw⟩;have hw:=hw.symm;subst hw;exact uj
theorem IA (m : MM) (TT gb go_ fl fc k : Nat) (f1 : Int) (la sa : Option Addr) (ln lc sn sc : Nat) (t : Int) (lo : ByteArray) (ca : Option Addr) (cn cc : Nat) (co : List InM) (w : World) (hm : MOk w w.heap.size w.heap.size m) (hfl : 0 < fl) (hkl : k < m.fn) (hy : m.fns[k]? = some (t,lo,(ca,cn,cc),co)) (h0 : w.cell? ⟨gb,go_,none⟩ = some (.int .i64 k)) (h1 : w.cell? ⟨gb,go_ + 1,none⟩ = some (.int .i64 f1)) (h2 : w.cell? ⟨gb,go_ + 2,none⟩ = some (.slice la ln lc)) (h3 : w.cell? ⟨gb,go_ + 3,none⟩ = some (.slice sa sn sc)) (hr : (decide (0 ≤ f1) && decide (f1 < (cn : Int))) = false) :
  Calls Tryz.prog 38 #[.agg (mV m),.slice (some ⟨TT,0,none⟩) m.fn m.fn,.slice (some ⟨gb,go_,none⟩) fl fc] w fun e w' => e = .returned (.bool false) ∧ Below w.heap.size w w':=by
 show Calls Tryz.prog 38 #[.agg #[.slice m.ta m.tn m.tc,.slice m.ha m.hn m.hc,.slice m.ga m.gn m.gc,.int .i64 m.fi,.int .i64 m.mo,.slice m.fa m.fn m.fc,.slice m.da m.dn m.dc,.slice m.ea m.en m.ec],.slice (some ⟨TT,0,none⟩) m.fn m.fn,.slice (some ⟨gb,go_,none⟩) fl fc] w _
 have B1:=aj w (aR m.ta m.tn m.tc m.ha m.hn m.hc m.ga m.gn m.gc m.fi m.mo m.fa m.fn m.fc m.da m.dn m.dc m.ea m.en m.ec);have B2:=aj (w.alloc (aR m.ta m.tn m.tc m.ha m.hn m.hc m.ga m.gn m.gc m.fi m.mo m.fa m.fn m.fc m.da m.dn m.dc m.ea m.en m.ec)) (bo k f1 la ln lc sa sn sc);have B3:=aj ((w.alloc (aR m.ta m.tn m.tc m.ha m.hn m.hc m.ga m.gn m.gc m.fi m.mo m.fa m.fn m.fc m.da m.dn m.dc m.ea m.en m.ec)).alloc (bo k f1 la ln lc sa sn sc)) (aW t lo ca cn cc);have B12:=B1.trans (B2.mono B1.size);have B123:=B12.trans (B3.mono B12.size);have HB:=hid B123;have g0:=ag B1 h0;have g1:=ag B1 h1;have g2:=ag B1 h2;have g3:=ag B1 h3;obtain ⟨fb,fo,hfa,hfc⟩:=hm.pf.2.resolve_left ae;obtain ⟨y0,y1,y2⟩:=hfc k _ hy
 simp only at y0 y1 y2
 have y0:=ag B12 y0;have y1:=ag B12 y1;have y2:=ag B12 y2;have km:=heap_alloc_new w (aR m.ta m.tn m.tc m.ha m.hn m.hc m.ga m.gn m.gc m.fi m.mo m.fa m.fn m.fc m.da m.dn m.dc m.ea m.en m.ec);have k1:=ar B2 km;have k2:=ar B3 k1;have kfa : ((w.alloc (aR m.ta m.tn m.tc m.ha m.hn m.hc m.ga m.gn m.gc m.fi m.mo m.fa m.fn m.fc m.da m.dn m.dc m.ea m.en m.ec)).alloc (bo k f1 la ln lc sa sn sc)).heap[w.heap.size + 1]? = some (bo k f1 la ln lc sa sn sc):=gF au;have kfb:=ar B3 kfa;have ky : (((w.alloc (aR m.ta m.tn m.tc m.ha m.hn m.hc m.ga m.gn m.gc m.fi m.mo m.fa m.fn m.fc m.da m.dn m.dc m.ea m.en m.ec)).alloc (bo k f1 la ln lc sa sn sc)).alloc (aW t lo ca cn cc)).heap[w.heap.size + 1 + 1]? = some (aW t lo ca cn cc):=gF au;have c5 : ((w.alloc (aR m.ta m.tn m.tc m.ha m.hn m.hc m.ga m.gn m.gc m.fi m.mo m.fa m.fn m.fc m.da m.dn m.dc m.ea m.en m.ec)).alloc (bo k f1 la ln lc sa sn sc)).cell? ⟨w.heap.size,5,none⟩ = some (.slice (some ⟨fb,fo,none⟩) m.fn m.fc):=tH;have z0 : ((w.alloc (aR m.ta m.tn m.tc m.ha m.hn m.hc m.ga m.gn m.gc m.fi m.mo m.fa m.fn m.fc m.da m.dn m.dc m.ea m.en m.ec)).alloc (bo k f1 la ln lc sa sn sc)).cell? ⟨w.heap.size + 1,0,none⟩ = some (.int .i64 k):=ai kfa;have zz0 : (((w.alloc (aR m.ta m.tn m.tc m.ha m.hn m.hc m.ga m.gn m.gc m.fi m.mo m.fa m.fn m.fc m.da m.dn m.dc m.ea m.en m.ec)).alloc (bo k f1 la ln lc sa sn sc)).alloc (aW t lo ca cn cc)).cell? ⟨w.heap.size + 1,0,none⟩ = some (.int .i64 k):=ai kfb;have zz1 : (((w.alloc (aR m.ta m.tn m.tc m.ha m.hn m.hc m.ga m.gn m.gc m.fi m.mo m.fa m.fn m.fc m.da m.dn m.dc m.ea m.en m.ec)).alloc (bo k f1 la ln lc sa sn sc)).alloc (aW t lo ca cn cc)).cell? ⟨w.heap.size + 1,1,none⟩ = some (.int .i64 f1):=ai kfb;have hfl' : (0 : Int) < (fl : Int):=ae;have hk' : (k : Int) < (m.fn : Int):=ae
 have HI:=hid (fun (W : World) => c64 k m.fn W)
 have e1 : (decide (0 ≤ (k : Int)) && decide ((k : Int) < (m.fn : Int))) = true:=aI;rw [e1] at HI
 have HI2:=hid (fun (W : World) => c64 f1 cn W)
 rw [hr] at HI2;clear B1 B2 B3 B12 B123 h0 h1 h2 h3 hfc hfa hy hr hm km k1 k2 kfa kfb ky e1
 go_enter Tryz.func38,Tryz.ntmps38
 go_wp2_with fail;refine (HI.out _).mono ?_;rintro e w2 ⟨rfl,hw⟩;have hw:=hw.symm;subst hw;go_wp2_with fail;refine (HI2.out _).mono ?_;rintro e w3 ⟨rfl,hw⟩;have hw:=hw.symm;subst hw;exact uj
theorem Df {pc q : Nat} (m : MM) (TT gb go_ fc k : Nat) (la sa : Option Addr) (ln lc sn sc : Nat) (lo : ByteArray) (ca : Option Addr) (cn cc : Nat) (co : List InM) (w : World) (hm : MOk w w.heap.size w.heap.size m) (hkl : k < m.fn) (hy : m.fns[k]? = some (↑q,lo,(ca,cn,cc),co)) (h0 : w.cell? ⟨gb,go_,none⟩ = some (.int .i64 k)) (h1 : w.cell? ⟨gb,go_ + 1,none⟩ = some (.int .i64 pc)) (h2 : w.cell? ⟨gb,go_ + 2,none⟩ = some (.slice la ln lc)) (h3 : w.cell? ⟨gb,go_ + 3,none⟩ = some (.slice sa sn sc)) (hT : TbC m TT w) {P Q sh : ByteArray} {ll sl : List Int} (hpn : pc < cn) (hq : m.types[q]? = some (P,Q)) (hPl : P.size + lo.size ≤ 64) (hsh : (qX m (↑q,lo,(ca,cn,cc),co))[pc]? = some sh) (hss : sh.size ≤ 1000000) (hL : SI .u64 w la ln ll) (hSt : SI .u64 w sa sn sl) (hln : ln ≤ 1099511627776) (hsn : sn ≤ 1099511627776) (hcn : cn ≤ 1000000) :
  Calls Tryz.prog 38 #[.agg (mV m),.slice (some ⟨TT,0,none⟩) m.fn m.fn,.slice (some ⟨gb,go_,none⟩) 1 fc] w fun e w' => e = .returned (.bool (nY ll (P ++ lo) && nY sl sh)) ∧ Below w.heap.size w w':=by
 show Calls Tryz.prog 38 #[.agg #[.slice m.ta m.tn m.tc,.slice m.ha m.hn m.hc,.slice m.ga m.gn m.gc,.int .i64 m.fi,.int .i64 m.mo,.slice m.fa m.fn m.fc,.slice m.da m.dn m.dc,.slice m.ea m.en m.ec],.slice (some ⟨TT,0,none⟩) m.fn m.fn,.slice (some ⟨gb,go_,none⟩) 1 fc] w _
 have B1:=aj w (aR m.ta m.tn m.tc m.ha m.hn m.hc m.ga m.gn m.gc m.fi m.mo m.fa m.fn m.fc m.da m.dn m.dc m.ea m.en m.ec);have B2:=aj (w.alloc (aR m.ta m.tn m.tc m.ha m.hn m.hc m.ga m.gn m.gc m.fi m.mo m.fa m.fn m.fc m.da m.dn m.dc m.ea m.en m.ec)) (bo k pc la ln lc sa sn sc);have B3:=aj ((w.alloc (aR m.ta m.tn m.tc m.ha m.hn m.hc m.ga m.gn m.gc m.fi m.mo m.fa m.fn m.fc m.da m.dn m.dc m.ea m.en m.ec)).alloc (bo k pc la ln lc sa sn sc)) (aW q lo ca cn cc);have B12:=B1.trans (B2.mono B1.size);have B123:=B12.trans (B3.mono B12.size);have HB:=hid B123;have g0:=ag B1 h0;have g1:=ag B1 h1;have g2:=ag B1 h2;have g3:=ag B1 h3;obtain ⟨fb,fo,hfa,hfc⟩:=hm.pf.2.resolve_left ae;obtain ⟨y0,y1,y2⟩:=hfc k _ hy
 simp only at y0 y1 y2
 have y0:=ag B12 y0;have y1:=ag B12 y1;have y2:=ag B12 y2;have km:=heap_alloc_new w (aR m.ta m.tn m.tc m.ha m.hn m.hc m.ga m.gn m.gc m.fi m.mo m.fa m.fn m.fc m.da m.dn m.dc m.ea m.en m.ec);have k1:=ar B2 km;have k2:=ar B3 k1;have kfa : ((w.alloc (aR m.ta m.tn m.tc m.ha m.hn m.hc m.ga m.gn m.gc m.fi m.mo m.fa m.fn m.fc m.da m.dn m.dc m.ea m.en m.ec)).alloc (bo k pc la ln lc sa sn sc)).heap[w.heap.size + 1]? = some (bo k pc la ln lc sa sn sc):=gF au;have kfb:=ar B3 kfa;have ky : (((w.alloc (aR m.ta m.tn m.tc m.ha m.hn m.hc m.ga m.gn m.gc m.fi m.mo m.fa m.fn m.fc m.da m.dn m.dc m.ea m.en m.ec)).alloc (bo k pc la ln lc sa sn sc)).alloc (aW q lo ca cn cc)).heap[w.heap.size + 1 + 1]? = some (aW q lo ca cn cc):=gF au;have c5 : ((w.alloc (aR m.ta m.tn m.tc m.ha m.hn m.hc m.ga m.gn m.gc m.fi m.mo m.fa m.fn m.fc m.da m.dn m.dc m.ea m.en m.ec)).alloc (bo k pc la ln lc sa sn sc)).cell? ⟨w.heap.size,5,none⟩ = some (.slice (some ⟨fb,fo,none⟩) m.fn m.fc):=tH;have z0 : ((w.alloc (aR m.ta m.tn m.tc m.ha m.hn m.hc m.ga m.gn m.gc m.fi m.mo m.fa m.fn m.fc m.da m.dn m.dc m.ea m.en m.ec)).alloc (bo k pc la ln lc sa sn sc)).cell? ⟨w.heap.size + 1,0,none⟩ = some (.int .i64 k):=ai kfa;have zz0 : (((w.alloc (aR m.ta m.tn m.tc m.ha m.hn m.hc m.ga m.gn m.gc m.fi m.mo m.fa m.fn m.fc m.da m.dn m.dc m.ea m.en m.ec)).alloc (bo k pc la ln lc sa sn sc)).alloc (aW q lo ca cn cc)).cell? ⟨w.heap.size + 1,0,none⟩ = some (.int .i64 k):=ai kfb;have zz1 : (((w.alloc (aR m.ta m.tn m.tc m.ha m.hn m.hc m.ga m.gn m.gc m.fi m.mo m.fa m.fn m.fc m.da m.dn m.dc m.ea m.en m.ec)).alloc (bo k pc la ln lc sa sn sc)).alloc (aW q lo ca cn cc)).cell? ⟨w.heap.size + 1,1,none⟩ = some (.int .i64 pc):=ai kfb;have hfl' : (0 : Int) < ((1 : Nat) : Int):=ae;have hk' : (k : Int) < (m.fn : Int):=ae
 have HI:=hid (fun (W : World) => c64 k m.fn W)
 have e1 : (decide (0 ≤ (k : Int)) && decide ((k : Int) < (m.fn : Int))) = true:=aI;rw [e1] at HI
 have HI2:=hid (fun (W : World) => c64 pc cn W)
 have e2 : (decide (0 ≤ (pc : Int)) && decide ((pc : Int) < (cn : Int))) = true:=aI;rw [e2] at HI2;obtain ⟨SH,t0,t1,t2⟩:=hT k _ hy;have t2:=t2 pc sh hsh
 simp only at t0
 have t0:=ag B123 t0;have t2:=ag B123 t2;obtain ⟨tb,to_,hta,htc⟩:=hm.pt.2.resolve_left jF;obtain ⟨r0,r1⟩:=htc q _ hq;have r0:=ag B123 r0;have d0 : (((w.alloc (aR m.ta m.tn m.tc m.ha m.hn m.hc m.ga m.gn m.gc m.fi m.mo m.fa m.fn m.fc m.da m.dn m.dc m.ea m.en m.ec)).alloc (bo k pc la ln lc sa sn sc)).alloc (aW q lo ca cn cc)).cell? ⟨w.heap.size,0,none⟩ = some (.slice (some ⟨tb,to_,none⟩) m.tn m.tc):=yM;have zz2 : (((w.alloc (aR m.ta m.tn m.tc m.ha m.hn m.hc m.ga m.gn m.gc m.fi m.mo m.fa m.fn m.fc m.da m.dn m.dc m.ea m.en m.ec)).alloc (bo k pc la ln lc sa sn sc)).alloc (aW q lo ca cn cc)).cell? ⟨w.heap.size + 1,2,none⟩ = some (.slice la ln lc):=ai kfb;have zz3 : (((w.alloc (aR m.ta m.tn m.tc m.ha m.hn m.hc m.ga m.gn m.gc m.fi m.mo m.fa m.fn m.fc m.da m.dn m.dc m.ea m.en m.ec)).alloc (bo k pc la ln lc sa sn sc)).alloc (aW q lo ca cn cc)).cell? ⟨w.heap.size + 1,3,none⟩ = some (.slice sa sn sc):=ai kfb;have yy0 : (((w.alloc (aR m.ta m.tn m.tc m.ha m.hn m.hc m.ga m.gn m.gc m.fi m.mo m.fa m.fn m.fc m.da m.dn m.dc m.ea m.en m.ec)).alloc (bo k pc la ln lc sa sn sc)).alloc (aW q lo ca cn cc)).cell? ⟨w.heap.size + 1 + 1,0,none⟩ = some (.int .i64 q):=ai ky;have yy1 : (((w.alloc (aR m.ta m.tn m.tc m.ha m.hn m.hc m.ga m.gn m.gc m.fi m.mo m.fa m.fn m.fc m.da m.dn m.dc m.ea m.en m.ec)).alloc (bo k pc la ln lc sa sn sc)).alloc (aW q lo ca cn cc)).cell? ⟨w.heap.size + 1 + 1,1,none⟩ = some (.string lo):=ai ky;have hpn' : (pc : Int) < (cn : Int):=ae;have hqt : (q : Int) < (m.tn : Int):=jF;have hsum : ¬ 9223372036854775807 < P.size + lo.size:=ae;have HLl:=hid (hL.later B123);have HSl:=hid (hSt.later B123);have HPl:=hid hPl;have hmt : m.tn ≤ 281474976710656 ∨ True:=.inr trivial;clear B1 B2 B3 B12 B123 h0 h1 h2 h3 hfc hfa hta hy hm km k1 k2 kfa kfb ky e1 e2 hT hq hsh t1 htc r1 hL hSt hPl hmt
 go_enter Tryz.func38,Tryz.ntmps38
 go_wp2_with fail;refine (HI.out _).mono ?_;rintro e w2 ⟨rfl,hw⟩;have hw:=hw.symm;subst hw;go_wp2_with fail;refine (HI2.out _).mono ?_;rintro e w3 ⟨rfl,hw⟩;have hw:=hw.symm;subst hw;go_wp2_with fail;generalize (((w.alloc (aR m.ta m.tn m.tc m.ha m.hn m.hc m.ga m.gn m.gc m.fi m.mo m.fa m.fn m.fc m.da m.dn m.dc m.ea m.en m.ec)).alloc (bo k pc la ln lc sa sn sc)).alloc (aW q lo ca cn cc)) = W3 at *;clear c5 z0 y0 y1 y2 g0 g1 g2 g3
 go_quiet (fail)
 have bq:=below_drewN W3 nq;have HBz:=hid (HB.out.trans (bq.mono HB.out.size));have HMK0:=And.intro (ag bq zz2) (And.intro (ag bq zz3) (And.intro (ag bq d0) (And.intro (ag bq yy0) (And.intro (ag bq yy1) (ag bq r0)))))
 have HA1:=hid (fun (W : World) (hb : Below (W3.drewN nq).heap.size (W3.drewN nq) W) => tA la ln lc ll (P ++ lo) W ((HLl.out.later bq).later hb) hln A9)
 have HA2:=hid (fun (W : World) (hb : Below (W3.drewN nq).heap.size (W3.drewN nq) W) => tA sa sn sc sl sh W ((HSl.out.later bq).later hb) hsn ae)
 generalize W3.drewN nq = Wz at *
 have HMK:=hid (fun (W : World) (hb : Below Wz.heap.size Wz W) => And.intro (ag hb HMK0.1) (And.intro (ag hb HMK0.2.1) (And.intro (ag hb HMK0.2.2.1) (And.intro (ag hb HMK0.2.2.2.1) (And.intro (ag hb HMK0.2.2.2.2.1) (ag hb HMK0.2.2.2.2.2))))))
 clear HMK0 bq zz0 zz1 zz2 zz3 d0 yy0 yy1 r0 t0 t2 HB;go_wp2_with fail
 refine wp_region_held_drew (S:=fun W => W.cell? ⟨w.heap.size + 1,2,none⟩ = some (.slice la ln lc) ∧ W.cell? ⟨w.heap.size + 1,3,none⟩ = some (.slice sa sn sc) ∧ W.cell? ⟨w.heap.size,0,none⟩ = some (.slice (some ⟨tb,to_,none⟩) m.tn m.tc) ∧ W.cell? ⟨w.heap.size + 1 + 1,0,none⟩ = some (.int .i64 q) ∧ W.cell? ⟨w.heap.size + 1 + 1,1,none⟩ = some (.string lo) ∧ W.cell? ⟨tb,to_ + q * 2,none⟩ = some (.string P)) ak (HMK.out _ (below_drewN Wz 1)) (fun hS5 => ?_)
 have B5 : Hid (Below Wz.heap.size Wz Wz.drew):=hid (below_drewN Wz 1);generalize Wz.drew = w5 at *;exact Ky
end Go.Proofs.YtkdldbfbldkkcaaGreatDoor
