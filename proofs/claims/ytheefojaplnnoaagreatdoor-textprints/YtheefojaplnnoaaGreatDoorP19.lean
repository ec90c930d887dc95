/-
  Texts Ea Eb Inx Xd Xe Xf Xg Xh Xi Qa.
-/
import Derived.Lib.AppendIntMem
import Derived.Lib.ItoaLen
import Derived.Lib.SlBytesConst
import Derived.Test.YtheefojaplnnoaaGreatDoorP00
import Derived.Test.YtheefojaplnnoaaGreatDoorP03
import Derived.Test.YtheefojaplnnoaaGreatDoorP04
import Derived.Test.YtheefojaplnnoaaGreatDoorP06
import Derived.Test.YtheefojaplnnoaaGreatDoorP18
set_option linter.unusedVariables false
set_option maxRecDepth 100000
set_option maxHeartbeats 16000000
namespace Go.Proofs.YtheefojaplnnoaaGreatDoor
open Go.RowKit
def dO : List Int:=[70,76,71,78,1]
def cL (m : MM) : Int:=orE (eu m) (if 65536 < (dO ++ nY m).length then 13 else 0)
theorem Far.later {w W : World} {R g : Nat} {a : Option Addr} (h : Far w R g a) (hb : Below w.heap.size w W) : Far W R g a:=fun b off c hh => ⟨(h b off c hh).1,(h b off c hh).2.1,Nat.lt_of_lt_of_le (h b off c hh).2.2 hb.size⟩
theorem MOk.later {w W : World} {R g : Nat} {m : MM} (h : MOk w R g m) (hb : Below w.heap.size w W) : MOk W R g m:=by
 have hk : aJ (fun _ => False) w W:=az hb
 refine ⟨h.pt.kept hk (fun _ _ _ _ => id),h.tf.later hb,h.ph.kept hk (fun _ _ _ _ => id),h.hf.later hb,h.hr,h.pg.kept hk (fun _ _ _ _ => id),h.gf.later hb,h.gr,h.i0,h.i1,h.o0,h.o1,h.pf.kept hk (fun _ _ _ _ => id),h.ff.later hb,fun j x hj => ?_,h.pd.kept hk (fun _ _ _ _ => id),h.df.later hb,fun j x hj => ?_,h.pe.kept hk (fun _ _ _ _ => id),h.ef.later hb,h.er⟩
 ·obtain ⟨a1,a2,a3,a4⟩:=h.fr j x hj
  refine ⟨a1,a2.kept hk (fun _ _ _ _ => id),a3.later hb,fun i y hi => ?_⟩
  obtain ⟨b1,b2,b3,b4⟩:=a4 i y hi
  exact ⟨b1,b2,b3.kept' hk (fun _ _ _ _ => id),b4.later hb⟩
 ·obtain ⟨a1,a2,a3⟩:=h.dr j x hj
  exact ⟨a1,a2.kept' hk (fun _ _ _ _ => id),a3.later hb⟩
def gi (w : World) (m : MM) : World:=((w.alloc (.cells (mV m) 29)).alloc (iB none 0 0)).alloc (dW 0)
def W22 (w : World) (m : MM) : World:=((gi w m).alloc (.cells #[.int .u8 70,.int .u8 76,.int .u8 71,.int .u8 78,.int .u8 1] 5 (5,6))).alloc (.cells #[.slice (some ⟨w.heap.size + 1 + 1 + 1,0,none⟩) 5 5] 152)
theorem CL (w : World) (m : MM) : Below w.heap.size w (W22 w m) ∧ (W22 w m).heap.size = w.heap.size + 1 + 1 + 1 + 1 + 1 ∧ Wr (W22 w m) (w.heap.size + 1 + 1 + 1 + 1) (w.heap.size + 1 + 1 + 1) 5 dO ∧
  (W22 w m).heap[w.heap.size]? = some (.cells (mV m) 29) ∧ (W22 w m).cell? ⟨w.heap.size + 1,0,none⟩ = some (.slice none 0 0) ∧ (W22 w m).frozen? ⟨w.heap.size + 1,0,none⟩ = false ∧ (W22 w m).cell? ⟨w.heap.size + 1 + 1,0,none⟩ = some (.int .i64 0) ∧ (W22 w m).frozen? ⟨w.heap.size + 1 + 1,0,none⟩ = false:=by
 have za : (gi w m).heap.size = w.heap.size + 1 + 1 + 1:=by simp [gi]
 have zb : ((gi w m).alloc (.cells #[.int .u8 70,.int .u8 76,.int .u8 71,.int .u8 78,.int .u8 1] 5 (5,6))).heap.size = w.heap.size + 1 + 1 + 1 + 1:=by simp [gi]
 have B1 : Below w.heap.size w (gi w m):=(((Below.refl _ w).alloc (Nat.le_refl _) _).alloc aq _).alloc bZ _;have B2:=ak (gi w m) (.cells #[.int .u8 70,.int .u8 76,.int .u8 71,.int .u8 78,.int .u8 1] 5 (5,6));have B3:=ak ((gi w m).alloc (.cells #[.int .u8 70,.int .u8 76,.int .u8 71,.int .u8 78,.int .u8 1] 5 (5,6))) (.cells #[.slice (some ⟨w.heap.size + 1 + 1 + 1,0,none⟩) 5 5] 152)
 have hb : ∀ k,k < w.heap.size + 1 + 1 + 1 → (W22 w m).heap[k]? = (gi w m).heap[k]?:=fun k hk => (B3.block k ae).trans (B2.block k ae)
 have hg:=(MapKept.heap_alloc (gi w m) (.cells #[.int .u8 70,.int .u8 76,.int .u8 71,.int .u8 78,.int .u8 1] 5 (5,6))).1;rw [za] at hg;have hg' : (W22 w m).heap[w.heap.size + 1 + 1 + 1]? = some (.cells #[.int .u8 70,.int .u8 76,.int .u8 71,.int .u8 78,.int .u8 1] 5 (5,6)):=(B3.block _ ae).trans hg;have hR:=(MapKept.heap_alloc ((gi w m).alloc (.cells #[.int .u8 70,.int .u8 76,.int .u8 71,.int .u8 78,.int .u8 1] 5 (5,6))) (.cells #[.slice (some ⟨w.heap.size + 1 + 1 + 1,0,none⟩) 5 5] 152)).1;rw [zb] at hR;have hR' : (W22 w m).heap[w.heap.size + 1 + 1 + 1 + 1]? = some (.cells #[.slice (some ⟨w.heap.size + 1 + 1 + 1,0,none⟩) 5 5] 152):=hR
 have c1 : (gi w m).heap[w.heap.size + 1]? = some (iB none 0 0):=by
  unfold gi;rw [(ak ((w.alloc (.cells (mV m) 29)).alloc (iB none 0 0)) _).block _ aq]
  have:=(MapKept.heap_alloc (w.alloc (.cells (mV m) 29)) (iB none 0 0)).1
  exact b9
 have c2 : (gi w m).heap[w.heap.size + 1 + 1]? = some (dW 0):=by
  have:=(MapKept.heap_alloc ((w.alloc (.cells (mV m) 29)).alloc (iB none 0 0)) (dW 0)).1
  simpa [gi] using this
 have c0 : (gi w m).heap[w.heap.size]? = some (.cells (mV m) 29):=by
  unfold gi;rw [(ak ((w.alloc (.cells (mV m) 29)).alloc (iB none 0 0)) _).block _ bZ,(ak (w.alloc (.cells (mV m) 29)) _).block _ aq];exact (MapKept.heap_alloc w _).1
 refine ⟨(B1.trans (B2.mono B1.size)).trans (B3.mono ae),by simp [W22,gi],⟨?_,?_,.inr ⟨rfl,av,?_,rfl,?_⟩,ae⟩,(hb _ ae).trans c0,?_,?_,?_,?_⟩
 ·simp [World.cell?,hR',dO]
 ·simp [World.frozen?,hR']
 ·simp [W22,gi]
 ·intro j u hj;have hl:=aA hj
  simp [dO] at hl
  simp only [World.cell?,hg']
  have : j = 0 ∨ j = 1 ∨ j = 2 ∨ j = 3 ∨ j = 4:=ae
  rcases this with rfl | rfl | rfl | rfl | rfl <;> simpa [dO] using hj
 ·have:=(hb (w.heap.size + 1) ae).trans c1
  simp [World.cell?,this]
 ·have:=(hb (w.heap.size + 1) ae).trans c1
  simp [World.frozen?,this]
 ·have:=(hb (w.heap.size + 1 + 1) ae).trans c2
  simp [World.cell?,this]
 ·have:=(hb (w.heap.size + 1 + 1) ae).trans c2
  simp [World.frozen?,this]
theorem wX (w : World) (m : MM) : (convert 63 63 (.slice (some ⟨w.heap.size + 1 + 1 + 1,0,none⟩) 5 5)).run Tryz.prog ((((w.alloc (.cells (mV m) 29)).alloc (iB none 0 0)).alloc (dW 0)).alloc (.cells #[.int .u8 70,.int .u8 76,.int .u8 71,.int .u8 78,.int .u8 1] 5)) =
  .ok (.slice (some ⟨w.heap.size + 1 + 1 + 1,0,none⟩) 5 5) ((gi w m).alloc (.cells #[.int .u8 70,.int .u8 76,.int .u8 71,.int .u8 78,.int .u8 1] 5 (5,6))):=by
 have za : (gi w m).heap.size = w.heap.size + 1 + 1 + 1:=by simp [gi]
 have:=Go.Lib.run_convert_bytes_const (P:=Tryz.prog) (gi w m) 63 5 #[.int .u8 70,.int .u8 76,.int .u8 71,.int .u8 78,.int .u8 1] 5 5 Tryz.underlying63 Tryz.underlying5
 rw [za] at this;exact this
theorem OO (m : MM) (w : World) (hk : aX w) (hm : ∀ R g,w.heap.size ≤ R → w.heap.size ≤ g → MOk w R g m) :
  Calls Tryz.prog 22 #[.agg (mV m)] w fun e w' => Below w.heap.size w w' ∧ (cL m ≠ 0 → e = .returned (.tuple #[.slice none 0 0,.int .i64 (cL m)])) ∧ (cL m = 0 → ∃ a c,e = .returned (.tuple #[.slice a (dO ++ nY m).length c,.int .i64 0])):=by
 have hmf : ∀ (fn : Fn) (first cap : Array Value) (w : World),(Instr.makeFunc fn first cap).run Tryz.prog w = .ok (.func fn first cap) w:=fun _ _ _ _ => rfl
 obtain ⟨B0,z0,hwr,x0,x1,f1,x2,f2⟩:=CL w m;have HWk:=hid (Mn (w.heap.size + 1 + 1 + 1 + 1) (w.heap.size + 1 + 1 + 1) 5 dO m (W22 w m) hwr av ae ae (hk.later B0 hk.pos) ((hm _ _ ae ae).later B0));have hcv:=wX w m;have hW : ((gi w m).alloc (.cells #[.int .u8 70,.int .u8 76,.int .u8 71,.int .u8 78,.int .u8 1] 5 (5,6))).alloc (.cells #[.slice (some ⟨w.heap.size + 1 + 1 + 1,0,none⟩) 5 5] 152) = W22 w m:=rfl
 have za : ((gi w m).alloc (.cells #[.int .u8 70,.int .u8 76,.int .u8 71,.int .u8 78,.int .u8 1] 5 (5,6))).heap.size = w.heap.size + 1 + 1 + 1 + 1:=by simp [gi]
 obtain ⟨⟨m0,m1,m2,m3,m4,m5,m6,m7⟩,_⟩:=ax x0;have BW:=hid B0;generalize W22 w m = W1 at *;generalize (gi w m).alloc (.cells #[.int .u8 70,.int .u8 76,.int .u8 71,.int .u8 78,.int .u8 1] 5 (5,6)) = W0 at *;unfold mV at hcv HWk
 show Calls Tryz.prog 22 #[.agg #[.slice m.ta m.tn m.tc,.slice m.ha m.hn m.hc,.slice m.ga m.gn m.gc,.int .i64 m.fi,.int .i64 m.mo,.slice m.fa m.fn m.fc,.slice m.da m.dn m.dc,.slice m.ea m.en m.ec]] w _
 clear hm hk B0
 go_enter_defers Tryz.func22,Tryz.ntmps22
 go_wp2_with fail;refine HWk.out.mono ?_;rintro e w9 ⟨hyes,hno⟩
 by_cases hx : eu m = 0
 rotate_left
 ·obtain ⟨⟨p,rfl⟩,hkept⟩:=hno hx;have hcm : cL m = eu m:=cU hx;have y1:=hkept.cell x1 ae;have y2:=hkept.cell x2 ae;have g1:=(bH (hkept.block (w.heap.size + 1) ae ae) 0).trans f1;have g2:=(bH (hkept.block (w.heap.size + 1 + 1) ae ae) 0).trans f2;have HC:=hid (zF (eu m) p (w.heap.size + 1) (w.heap.size + 1 + 1) _ _ w9 y1 g1 y2 g2 ae);clear hyes hno HWk;refine leaves_cons (f:=87) (args:=#[.pointer (some ⟨w.heap.size + 1,0,none⟩),.pointer (some ⟨w.heap.size + 1 + 1,0,none⟩)]) aq cu ?_;refine HC.out.mono ?_;rintro e u' w10 ⟨rfl,rfl,q1,q2,q3⟩
  have HB : Hid (Below w.heap.size w w10):=(BW.out.trans ((hkept.to_below (B:=w.heap.size) ae (fun k hk => ae)).mono (Nat.le_refl _))).trans (q3.to_below (by have:=hkept.size; omega) (fun k hk => ae))
  refine (show Go.Leaves Tryz.prog Tryz.f22 _ _ [] FrameMode.returning w10 from ⟨.tuple #[.slice none 0 0,.int .i64 (eu m)],?_,HB.out,fun _ => ?_,fun h0 => absurd (hcm.symm.trans h0) hx⟩)
  ·simp [results,Tryz.results22,go_sem,q1,q2]
  ·rw [hcm]
 ·obtain ⟨v,rfl,g',cap',hw9,hkept⟩:=hyes hx;have y1:=hkept.cell x1 ae;have y2:=hkept.cell x2 ae;have g1:=(bH (hkept.block (w.heap.size + 1) ae ae) 0).trans f1;have g2:=(bH (hkept.block (w.heap.size + 1 + 1) ae ae) 0).trans f2;have c9:=hw9.c0;have hK9:=hid hkept;have hz9:=hkept.size;have hcm : cL m = if 65536 < (dO ++ nY m).length then 13 else 0:=aP hx
  have HB9 : Hid (Below w.heap.size w w9):=BW.out.trans ((hkept.to_below (B:=w.heap.size) ae (fun k hk => ae)).mono (Nat.le_refl _))
  clear hyes hno HWk m0 m1 m2 m3 m4 m5 m6 m7 hwr x0 x1 x2 f1 f2 hkept;obtain ⟨E,hE⟩ : ∃ E,dO ++ nY m = E:=⟨_,rfl⟩;rw [hE] at c9 hcm hw9;have HE:=hid hE;clear hE
  by_cases hlong : 65536 < E.length
  ·have hd : decide ((E.length : Int) ≤ 65536) = false:=aG;rw [if_pos hlong] at hcm;go_wp2_with fail
   refine (eP (by first | rfl | exact hd)).mono ?_
   rintro e w9' ⟨rfl,rfl⟩;have HC:=hid (zF 13 0 (w.heap.size + 1) (w.heap.size + 1 + 1) _ _ w9' y1 g1 y2 g2 ae);refine leaves_cons (f:=87) (args:=#[.pointer (some ⟨w.heap.size + 1,0,none⟩),.pointer (some ⟨w.heap.size + 1 + 1,0,none⟩)]) aq cu ?_;refine HC.out.mono ?_;rintro e u' w10 ⟨rfl,rfl,q1,q2,q3⟩
   have HB : Hid (Below w.heap.size w w10):=HB9.out.trans (q3.to_below ae (fun k hk => ae))
   refine (show Go.Leaves Tryz.prog Tryz.f22 _ _ [] FrameMode.returning w10 from ⟨.tuple #[.slice none 0 0,.int .i64 13],?_,HB.out,fun _ => ?_,fun h0 => by rw [hcm] at h0; cases h0⟩)
   ·simp [results,Tryz.results22,go_sem,q1,q2]
   ·rw [hcm]
  ·have hd : decide ((E.length : Int) ≤ 65536) = true:=aG;rw [if_neg hlong] at hcm;go_wp2_with fail
   refine (cA (by first | rfl | exact hd)).mono ?_
   rintro e w9' ⟨rfl,rfl⟩;go_wp2_with fail;generalize hW9 : w9'.setCell ⟨w.heap.size + 1,0,none⟩ (.slice (some ⟨g',0,none⟩) E.length cap') = Wa at *
   have k1 : Wa.cell? ⟨w.heap.size + 1,0,none⟩ = some (.slice (some ⟨g',0,none⟩) E.length cap'):=by rw [← hW9]; exact World.cell?_setCell_same _ _ _ y1
   have k2 : Wa.cell? ⟨w.heap.size + 1 + 1,0,none⟩ = some (.int .i64 0):=by rw [← hW9,World.cell?_setCell_other _ _ _ _ aq]; exact y2
   have K1 : Below w.heap.size w9' Wa:=by rw [← hW9]; exact (aw w9' (w.heap.size + 1) 0 _).to_below ae (fun k hk => ae)
   have zz : Wa.heap.size = w9'.heap.size:=by rw [← hW9]; simp [World.setCell]
   generalize hWb : Wa.setCell ⟨w.heap.size + 1 + 1,0,none⟩ (.int .i64 0) = Wb at *
   have n1 : Wb.cell? ⟨w.heap.size + 1,0,none⟩ = some (.slice (some ⟨g',0,none⟩) E.length cap'):=by rw [← hWb,World.cell?_setCell_other _ _ _ _ aq]; exact k1
   have n2 : Wb.cell? ⟨w.heap.size + 1 + 1,0,none⟩ = some (.int .i64 0):=by rw [← hWb]; exact World.cell?_setCell_same _ _ _ k2
   have K2 : Below w.heap.size Wa Wb:=by rw [← hWb]; exact (aw Wa (w.heap.size + 1 + 1) 0 _).to_below ae (fun k hk => ae)
   refine leaves_cons (f:=87) (args:=#[.pointer (some ⟨w.heap.size + 1,0,none⟩),.pointer (some ⟨w.heap.size + 1 + 1,0,none⟩)]) aq cu ?_;refine (Lz _ _ _).mono ?_;rintro e u' w10 ⟨rfl,rfl,hb10⟩
   have q1:=(hb10.cell (by exact block_lt_of_cell n1)).trans n1
   have q2:=(hb10.cell (by exact block_lt_of_cell n2)).trans n2
   have HB : Hid (Below w.heap.size w w10):=((HB9.out.trans K1).trans K2).trans (hb10.mono (by have:=K2.size; omega))
   refine (show Go.Leaves Tryz.prog Tryz.f22 _ _ [] FrameMode.returning w10 from ⟨.tuple #[.slice (some ⟨g',0,none⟩) E.length cap',.int .i64 0],?_,HB.out,fun h0 => absurd hcm h0,fun _ => ⟨some ⟨g',0,none⟩,cap',?_⟩⟩)
   ·simp [results,Tryz.results22,go_sem,q1,q2]
   ·rw [HE.out]
theorem Ar (m : MM) (w : World) (hk : aX w) (hm : ∀ R g,w.heap.size ≤ R → w.heap.size ≤ g → MOk w R g m) :
  Calls Tryz.prog 31 #[.agg (mV m)] w fun e w' => e = .returned (.int .i64 (cL m)) ∧ Below w.heap.size w w':=by
 have B1:=ak w (.cells (mV m) 29)
 have HE:=hid (OO m (w.alloc (.cells (mV m) 29)) (hk.later B1 hk.pos) (fun R g h1 h2 => (hm R g (by simp at h1; omega) (by simp at h2; omega)).later B1))
 have hb:=(MapKept.heap_alloc w (.cells (mV m) 29)).1;have BW:=hid B1;obtain ⟨⟨m0,m1,m2,m3,m4,m5,m6,m7⟩,_⟩:=ax hb;have HW : w.alloc (bg m.ta m.tn m.tc m.ha m.hn m.hc m.ga m.gn m.gc m.fi m.mo m.fa m.fn m.fc m.da m.dn m.dc m.ea m.en m.ec) = w.alloc (.cells (mV m) 29):=rfl;generalize w.alloc (.cells (mV m) 29) = W1 at *;unfold mV at HE
 show Calls Tryz.prog 31 #[.agg #[.slice m.ta m.tn m.tc,.slice m.ha m.hn m.hc,.slice m.ga m.gn m.gc,.int .i64 m.fi,.int .i64 m.mo,.slice m.fa m.fn m.fc,.slice m.da m.dn m.dc,.slice m.ea m.en m.ec]] w _
 clear hm hk B1
 go_enter Tryz.func31,Tryz.ntmps31
 go_wp2_with fail;refine HE.out.mono ?_;rintro e w2 ⟨hb2,hno,hyes⟩;have HB:=hid (iE BW.out hb2)
 by_cases hx : cL m = 0
 ·obtain ⟨a,c,rfl⟩:=hyes hx;go_wp2_with fail;go_ret;exact ⟨lL,HB.out⟩
 ·obtain rfl:=hno hx;go_wp2_with fail;go_ret;exact ⟨rfl,HB.out⟩
theorem jm {w : World} {o : Obj} {b : Nat} (h : w.heap.size = b) : (w.alloc o).heap[b]? = some o:=by subst h; exact heap_alloc_new w o
def inx (y : InM) : Inx:=⟨y.1,y.2.1,y.2.2.1.1,y.2.2.1.2.1,y.2.2.1.2.2,y.2.2.2⟩
theorem np {xs : List InM} {j : Nat} {y : InM} (h : xs[j]? = some y) : (xs.map inx).getD j dx = inx y:=by
 simp [List.getD,h]
theorem sV {α β : Type} (g : α → List β) (k : Nat) (hk : ∀ x,(g x).length = k) : ∀ (l : List α) (i q : Nat),q < k → (l.flatMap g)[i * k + q]? = (l[i]?).bind fun x => (g x)[q]?
 | [],i,q,_ => by simp
 | x :: l,0,q,hq => by
  rw [List.flatMap_cons,List.getElem?_append_left (by rw [hk]; omega)]
  simp
 | x :: l,i + 1,q,hq => by
  have ih:=sV g k hk l i q hq
  rw [List.flatMap_cons,List.getElem?_append_right (by rw [hk,Nat.succ_mul]; omega),hk]
  rw [show (i + 1) * k + q - k = i * k + q by rw [Nat.succ_mul]; omega,ih]
  simp
theorem gu {α β : Type} (g : α → List β) (k : Nat) (hk : ∀ x,(g x).length = k) : ∀ (l : List α),(l.flatMap g).length = l.length * k
 | [] => by simp
 | x :: l => by rw [List.flatMap_cons,List.length_append,hk,gu g k hk l,List.length_cons,Nat.succ_mul]; omega
theorem LM {α : Type} {w : World} {base e n k : Nat} {v : Value} (g : α → List Value) (hk : ∀ x,(g x).length = k) {l : List α} (h : w.ownsRow base e k v n (l.flatMap g)) (hn : l.length = n) :
  ∃ a c,v = .slice a n c ∧ n ≤ c ∧ (∀ b off cc,a = some ⟨b,off,cc⟩ → base ≤ b ∧ b < w.heap.size ∧ ∃ cur,w.heap[b]? = some (.cells cur e)) ∧ (n = 0 ∨ ∃ b off,a = some ⟨b,off,none⟩ ∧ off = 0 ∧ ∀ (j : Nat) x,l[j]? = some x → ∀ q,q < k → w.cell? ⟨b,off + j * k + q,none⟩ = (g x)[q]?):=by
 rcases h.2 with ⟨rfl,h0⟩ | ⟨b,cap,cur,rfl,h2,h3,h4,h5,h6,h7⟩
 ·exact ⟨none,0,by rw [h0],ae,fun b off cc e => dY,.inl h0⟩
 ·refine ⟨some ⟨b,0,none⟩,cap,rfl,h4,fun b' off cc e => ?_,.inr ⟨b,0,rfl,rfl,fun j x hx q hq => ?_⟩⟩
  ·cases e
   exact ⟨h2,aV h3,cur,h3⟩
  ·have hjn : j < n:=by have:=aA hx; omega
   have hlt : j * k + q < n * k:=by
    have : (j + 1) * k ≤ n * k:=Nat.mul_le_mul_right k hjn;rw [Nat.succ_mul] at this; omega
   have hc:=World.ownsRow.cellAt h (j * k + q) hlt
   rw [Nat.zero_add,hc,sV g k hk l j q hq,hx]; rfl
theorem aW {S : Nat → Prop} {w w' : World} {base e k n : Nat} {v : Value} {xs : List Value} (h : w.ownsRow base e k v n xs) (hk : aJ S w w') (hs : ∀ b,v.ownBlock = some b → ¬ S b) : w'.ownsRow base e k v n xs:=by
 refine ⟨h.1,?_⟩
 rcases h.2 with h0 | ⟨g,cp,cur,rfl,h2,h3,h4⟩
 ·exact .inl h0
 ·exact .inr ⟨g,cp,cur,rfl,h2,(hk.block g (aV h3) (hs g rfl)).trans h3,h4⟩
theorem eo {w : World} {base base' e k n : Nat} {v : Value} {xs : List Value} (h : w.ownsRow base e k v n xs) (hb : base' ≤ base) : w.ownsRow base' e k v n xs:=by
 exact IG
theorem lF {w : World} {base e k n b : Nat} {v : Value} {xs : List Value} (h : w.ownsRow base e k v n xs) (hb : v.ownBlock = some b) : base ≤ b ∧ b < w.heap.size ∧ ∃ cur,w.heap[b]? = some (.cells cur e):=by
 rcases h.2 with ⟨h0,_⟩ | ⟨g,cp,cur,rfl,h2,h3,h4⟩
 ·rw [h0] at hb; cases hb
 ·obtain rfl : g = b:=uF;exact ⟨h2,aV h3,cur,h3⟩
def cm (y : FuM) : List Value:=[.int .i64 y.1,.string y.2.1,.slice y.2.2.1.1 y.2.2.1.2.1 y.2.2.1.2.2]
def FnL (w : World) (base : Nat) (y : FuM) : Prop:=LC w base (.slice y.2.2.1.1 y.2.2.1.2.1 y.2.2.1.2.2) (y.2.2.2.map inx) ∧ LL w base (y.2.2.2.map inx)
theorem FnL.kept {S : Nat → Prop} {w w' : World} {base : Nat} {y : FuM} (h : FnL w base y) (hk : aJ S w w') (hS : ∀ k,S k → k < w.heap.size → ∃ cur t,w.heap[k]? = some (.cells cur t) ∧ t ≠ 75 ∧ t ≠ 3) : FnL w' base y:=by
 refine ⟨aW h.1 hk (fun b hb hx => ?_),fun z hz => aW (h.2 z hz) hk (fun b hb hx => ?_)⟩
 ·obtain ⟨_,hl,cur,hc⟩:=lF h.1 hb;obtain ⟨c2,t,hc2,h1,h2⟩:=hS b hx hl;rw [hc] at hc2; simp at hc2
  exact h1 hc2.2.symm
 ·obtain ⟨_,hl,cur,hc⟩:=lF (h.2 z hz) hb;obtain ⟨c2,t,hc2,h1,h2⟩:=hS b hx hl;rw [hc] at hc2; simp at hc2
  exact h2 hc2.2.symm
theorem FnL.mono {w : World} {base base' : Nat} {y : FuM} (h : FnL w base y) (hb : base' ≤ base) : FnL w base' y:=⟨eo h.1 hb,fun z hz => eo (h.2 z hz) hb⟩
structure FnS (x y : FuM) : Prop where
 ty : y.1 = x.1
 lo : y.2.1 = x.2.1
 n : y.2.2.1.2.1 = x.2.2.1.2.1
 len : y.2.2.2.length = x.2.2.2.length
 code : ∀ j,j < x.2.2.2.length → ((y.2.2.2.map inx).getD j dx).c = ((x.2.2.2.map inx).getD j dx).c ∧ ((y.2.2.2.map inx).getD j dx).a = ((x.2.2.2.map inx).getD j dx).a ∧ ((y.2.2.2.map inx).getD j dx).l = ((x.2.2.2.map inx).getD j dx).l ∧ ((y.2.2.2.map inx).getD j dx).ln = ((x.2.2.2.map inx).getD j dx).ln
def fY (y : DaM) : List Value:=[.int .i64 y.1,.slice y.2.1.1 y.2.1.2.1 y.2.1.2.2]
def DaL (w : World) (base : Nat) (y : DaM) : Prop:=w.ownsRow base 5 1 (.slice y.2.1.1 y.2.1.2.1 y.2.1.2.2) y.2.1.2.1 (y.2.2.map (Value.int .u8))
theorem DaL.kept {S : Nat → Prop} {w w' : World} {base : Nat} {y : DaM} (h : DaL w base y) (hk : aJ S w w') (hS : ∀ k,S k → k < w.heap.size → ∃ cur t,w.heap[k]? = some (.cells cur t) ∧ t ≠ 5) : DaL w' base y:=by
 refine aW h hk (fun b hb hx => ?_)
 obtain ⟨_,hl,cur,hc⟩:=lF h hb;obtain ⟨c2,t,hc2,h1⟩:=hS b hx hl;rw [hc] at hc2; simp at hc2
 exact h1 hc2.2.symm
structure DaS (x y : DaM) : Prop where
 at_ : y.1 = x.1
 n : y.2.1.2.1 = x.2.1.2.1
 b : y.2.2 = x.2.2
def dP (x : Sg) : List Value:=[.string x.1,.string x.2]
def fF (x : Gl) : List Value:=[.int .u8 x.1,.bool x.2.1,.int .u64 x.2.2]
def fX (x : Ex) : List Value:=[.string x.1,.int .i64 x.2]
def dR (x : Int) : List Value:=[.int .i64 x]
structure MC (m n : MM) (base : Nat) (w : World) : Prop where
 tn : n.tn = m.tn
 types : n.types = m.types
 hn : n.hn = m.hn
 hosts : n.hosts = m.hosts
 gn : n.gn = m.gn
 globals : n.globals = m.globals
 fi : n.fi = m.fi
 mo : n.mo = m.mo
 fn : n.fn = m.fn
 dn : n.dn = m.dn
 en : n.en = m.en
 exps : n.exps = m.exps
 fl : n.fns.length = m.fn
 fs : ∀ (j : Nat) x y,m.fns[j]? = some x → n.fns[j]? = some y → FnS x y
 dl : n.data.length = m.dn
 ds : ∀ (j : Nat) x y,m.data[j]? = some x → n.data[j]? = some y → DaS x y
 rT : w.ownsRow base 73 2 (.slice n.ta n.tn n.tc) n.tn (n.types.flatMap dP)
 rH : w.ownsRow base 3 1 (.slice n.ha n.hn n.hc) n.hn (n.hosts.flatMap dR)
 rG : w.ownsRow base 102 3 (.slice n.ga n.gn n.gc) n.gn (n.globals.flatMap fF)
 rF : w.ownsRow base 78 3 (.slice n.fa n.fn n.fc) n.fn (n.fns.flatMap cm)
 fL : ∀ y ∈ n.fns,FnL w base y
 rD : w.ownsRow base 81 2 (.slice n.da n.dn n.dc) n.dn (n.data.flatMap fY)
 dL : ∀ y ∈ n.data,DaL w base y
 rE : w.ownsRow base 83 2 (.slice n.ea n.en n.ec) n.en (n.exps.flatMap fX)
section
variable {w : World} {base n : Nat} {a : Option Addr} {c : Nat}
theorem ko {α : Type} {e k : Nat} (g : α → List Value) (hk : ∀ x,(g x).length = k) {l : List α} (h : w.ownsRow base e k (.slice a n c) n (l.flatMap g)) (hn : l.length = n) :
  n ≤ c ∧ (∀ b off cc,a = some ⟨b,off,cc⟩ → base ≤ b ∧ b < w.heap.size ∧ ∃ cur,w.heap[b]? = some (.cells cur e)) ∧ (n = 0 ∨ ∃ b off,a = some ⟨b,off,none⟩ ∧ off = 0 ∧ ∀ (j : Nat) x,l[j]? = some x → ∀ q,q < k → w.cell? ⟨b,off + j * k + q,none⟩ = (g x)[q]?):=by
 obtain ⟨a',c',e1,h1,h2,h3⟩:=LM g hk h hn
 injection e1 with e1 _ e2
 subst e1 e2;exact ⟨h1,h2,h3⟩
theorem Nq {l : List Sg} (h : w.ownsRow base 73 2 (.slice a n c) n (l.flatMap dP)) (hn : l.length = n) : fk w a n l:=by
 refine ⟨hn,(ko dP (fun _ => rfl) h hn).2.2.imp id fun ⟨b,off,e,_,hc⟩ => ⟨b,off,e,fun j x hj => ⟨?_,?_⟩⟩⟩
 ·exact m9
 ·exact mr
theorem NP {l : List Gl} (h : w.ownsRow base 102 3 (.slice a n c) n (l.flatMap fF)) (hn : l.length = n) : kg w a n l:=by
 refine ⟨hn,(ko fF (fun _ => rfl) h hn).2.2.imp id fun ⟨b,off,e,_,hc⟩ => ⟨b,off,e,fun j x hj => ⟨?_,?_,?_⟩⟩⟩
 ·exact m9
 ·exact mr
 ·exact hc j x hj 2 ae
theorem NI {l : List Ex} (h : w.ownsRow base 83 2 (.slice a n c) n (l.flatMap fX)) (hn : l.length = n) : jD w a n l:=by
 refine ⟨hn,(ko fX (fun _ => rfl) h hn).2.2.imp id fun ⟨b,off,e,_,hc⟩ => ⟨b,off,e,fun j x hj => ⟨?_,?_⟩⟩⟩
 ·exact m9
 ·exact mr
theorem N5 {l : List Int} (h : w.ownsRow base 3 1 (.slice a n c) n (l.flatMap dR)) (hn : l.length = n) : i6 w a n l:=by
 refine ⟨hn,(ko (k:=1) dR (fun _ => rfl) h hn).2.2.imp id fun ⟨b,off,e,_,hc⟩ => ⟨b,off,e,fun j x hj => ?_⟩⟩
 have:=hc j x hj 0 ae
 simpa [dR] using this
theorem Oz {l : List FuM} (h : w.ownsRow base 78 3 (.slice a n c) n (l.flatMap cm)) (hn : l.length = n) : iU w a n l:=by
 refine ⟨hn,(ko cm (fun _ => rfl) h hn).2.2.imp id fun ⟨b,off,e,_,hc⟩ => ⟨b,off,e,fun j x hj => ⟨?_,?_,?_⟩⟩⟩
 ·exact m9
 ·exact mr
 ·exact hc j x hj 2 ae
theorem Om {l : List DaM} (h : w.ownsRow base 81 2 (.slice a n c) n (l.flatMap fY)) (hn : l.length = n) : jn w a n l:=by
 refine ⟨hn,(ko fY (fun _ => rfl) h hn).2.2.imp id fun ⟨b,off,e,_,hc⟩ => ⟨b,off,e,fun j x hj => ⟨?_,?_⟩⟩⟩
 ·exact m9
 ·exact mr
theorem NT {l : List InM} (h : LC w base (.slice a n c) (l.map inx)) (hn : l.length = n) : fO w a n l:=by
 have h' : w.ownsRow base 75 3 (.slice a n c) n ((l.map inx).flatMap cel):=by
  have : w.ownsRow base 75 3 (.slice a n c) (l.map inx).length (Jc (l.map inx)):=h;rw [List.length_map,hn] at this;exact this
 refine ⟨hn,(ko cel (fun _ => rfl) h' (by simp [hn])).2.2.imp id fun ⟨b,off,e,_,hc⟩ => ⟨b,off,e,fun j x hj => ?_⟩⟩
 have hj' : (l.map inx)[j]? = some (inx x):=by rw [List.getElem?_map,hj]; rfl
 exact ⟨hc j _ hj' 0 ae,hc j _ hj' 1 ae,hc j _ hj' 2 ae⟩
end
theorem gX {w : World} {base e k n c : Nat} {a : Option Addr} {xs : List Value} (h : w.ownsRow base e k (.slice a n c) n xs) (R g : Nat) (hR : w.heap.size ≤ R) (hg : w.heap.size ≤ g) : Far w R g a:=by
 intro b off cc hb;subst hb
 rcases h.2 with ⟨h0,_⟩ | ⟨q,cp,cur,h1,_,h3,_⟩
 ·cases h0
 ·injection h1 with h1
  obtain rfl : b = q:=by injection h1 with h1; injection h1
  have:=aV h3
  omega
theorem MC.ok {m n : MM} {base : Nat} {w w0 : World} {R0 g0 : Nat} (h : MC m n base w) (hm : MOk w0 R0 g0 m) : ∀ R g,w.heap.size ≤ R → w.heap.size ≤ g → MOk w R g n:=by
 intro R g hR hg
 have l1 : n.types.length = n.tn:=by rw [h.types,h.tn]; exact hm.pt.1
 have l2 : n.hosts.length = n.hn:=by rw [h.hosts,h.hn]; exact hm.ph.1
 have l3 : n.globals.length = n.gn:=by rw [h.globals,h.gn]; exact hm.pg.1
 have l4 : n.fns.length = n.fn:=by rw [h.fl,h.fn]
 have l5 : n.data.length = n.dn:=by rw [h.dl,h.dn]
 have l6 : n.exps.length = n.en:=by rw [h.exps,h.en]; exact hm.pe.1
 refine ⟨Nq h.rT l1,gX h.rT R g hR hg,N5 h.rH l2,gX h.rH R g hR hg,by rw [h.hosts]; exact hm.hr,NP h.rG l3,gX h.rG R g hR hg,by rw [h.globals]; exact hm.gr,by rw [h.fi]; exact hm.i0,by rw [h.fi]; exact hm.i1,by rw [h.mo]; exact hm.o0,by rw [h.mo]; exact hm.o1,
  Oz h.rF l4,gX h.rF R g hR hg,fun j y hy => ?_,Om h.rD l5,gX h.rD R g hR hg,fun j y hy => ?_,NI h.rE l6,gX h.rE R g hR hg,by rw [h.exps]; exact hm.er⟩
 ·obtain ⟨x,hx⟩ : ∃ x,m.fns[j]? = some x:=⟨_,aN (by have:=aA hy; rw [hm.pf.1]; rw [h.fl] at this; exact this)⟩
  have hs:=h.fs j x y hx hy;obtain ⟨r1,r2,r3,r4⟩:=hm.fr j x hx;have hL:=h.fL y (List.mem_of_getElem? hy)
  have hln : y.2.2.2.length = y.2.2.1.2.1:=by rw [hs.len,hs.n]; exact r2.1
  refine ⟨by rw [hs.ty]; exact r1,NT hL.1 hln,?_,fun i yi hi => ?_⟩
  ·have:=hL.1
   unfold LC at this;rw [List.length_map,hln] at this;exact (gX this R g hR hg).nz _
  ·have hil : i < x.2.2.2.length:=by rw [← hs.len]; exact aA hi
   obtain ⟨xi,hxi⟩ : ∃ xi,x.2.2.2[i]? = some xi:=⟨_,aN hil⟩;obtain ⟨q1,q2,q3,q4⟩:=hs.code i hil;rw [np hi,np hxi] at q1 q2 q3 q4;obtain ⟨s1,s2,s3,s4⟩:=r4 i xi hxi;have q1' : yi.1 = xi.1:=q1;have q3' : yi.2.2.2 = xi.2.2.2:=q3;have q4' : yi.2.2.1.2.1 = xi.2.2.1.2.1:=q4;have hLi : LI w base (.slice yi.2.2.1.1 yi.2.2.1.2.1 yi.2.2.1.2.2) yi.2.2.2:=hL.2 (inx yi) (List.mem_map.2 ⟨yi,List.mem_of_getElem? hi,rfl⟩)
   have hsg : wo w yi.2.2.1.1 yi.2.2.1.2.1 yi.2.2.1.2.2 yi.2.2.2:=hLi.seg (by rw [q3']; exact s3.2.2.2.1) (by rw [q3',s3.1]; exact s3.2.2.1)
   have hl0 : yi.2.2.1.2.1 = yi.2.2.2.length:=by rw [q4',q3']; exact s3.1.symm
   refine ⟨by rw [q1']; exact s1,by rw [q1']; exact s2,hsg,?_⟩
   have h3 : w.ownsRow base 3 1 (.slice yi.2.2.1.1 yi.2.2.1.2.1 yi.2.2.1.2.2) yi.2.2.2.length (yi.2.2.2.map (Value.int .i64)):=hLi;rw [← hl0] at h3;exact (gX h3 R g hR hg).nz _
 ·obtain ⟨x,hx⟩ : ∃ x,m.data[j]? = some x:=⟨_,aN (by have:=aA hy; rw [hm.pd.1]; rw [h.dl] at this; exact this)⟩
  have hs:=h.ds j x y hx hy;obtain ⟨r1,r2,r3⟩:=hm.dr j x hx;have hL:=h.dL y (List.mem_of_getElem? hy);have hL' : w.ownsRow base 5 1 (.slice y.2.1.1 y.2.1.2.1 y.2.1.2.2) y.2.1.2.1 (y.2.2.map (Value.int .u8)):=hL
  have hlen : y.2.2.length = y.2.1.2.1:=by rw [hs.b,hs.n]; exact r2.1
  refine ⟨by rw [hs.at_]; exact r1,⟨hlen,?_,by rw [hs.n]; exact r2.2.2.1,by rw [hs.b]; exact r2.2.2.2.1,?_⟩,(gX hL' R g hR hg).nz _⟩
  ·have hf : y.2.2.map (Value.int .u8) = y.2.2.flatMap (fun z => [Value.int .u8 z]):=by
    generalize y.2.2 = l
    induction l with
    | nil => rfl
    | cons z l ih => simp [List.flatMap_cons,ih]
   rw [hf] at hL'
   exact (ko (fun z => [Value.int .u8 z]) (fun _ => rfl) hL' hlen).1
  ·rcases hL'.2 with ⟨_,h0⟩ | ⟨b,cp,cur,h1,_⟩
   ·exact .inl h0
   ·injection h1 with h1 _ _
    refine .inr ⟨b,0,h1,fun j hj => ?_⟩
    rw [h1] at hL';have h2 : ∃ cp',(Value.slice (some ⟨b,0,none⟩) y.2.1.2.1 y.2.1.2.2) = .slice (some ⟨b,0,none⟩) y.2.1.2.1 cp':=⟨_,rfl⟩
    have:=World.ownsRow.cellAt hL' j ae
    rw [Nat.zero_add,this,List.getElem?_map,List.getD_eq_getElem?_getD,aN ae];rfl
structure FLd (w : World) (e k N : Nat) (done Z : List Value) (wr : World) : Prop where
 row : wr.ownsRow w.heap.size e k (.slice (some ⟨w.heap.size,0,none⟩) N N) N (done ++ Z.drop done.length)
 bel : Below w.heap.size w wr
section
variable {w : World} {e k N : Nat} {done Z : List Value} {wr : World}
theorem FLd.lt (h : FLd w e k N done Z wr) : w.heap.size < wr.heap.size:=(lF h.row rfl).2.1
theorem FLd.put (h : FLd w e k N done Z wr) {j : Nat} (hj : done.length = j) (hlt : j < Z.length) (v : Value) : FLd w e k N (done ++ [v]) Z (wr.setCell ⟨w.heap.size,j,none⟩ v):=by
 subst hj;have h1:=(h.row.stored done.length v).1
 have he : (done ++ Z.drop done.length).set done.length v = (done ++ [v]) ++ Z.drop (done ++ [v]).length:=by
  have hd : (Z.drop done.length).set 0 v = v :: Z.drop (done.length + 1):=by
   rw [List.drop_eq_getElem_cons hlt]; rfl
  rw [List.set_append_right _ _ (Nat.le_refl _),Nat.sub_self,hd]
  simp
 rw [he] at h1;exact ⟨h1,h.bel.setCell aq _⟩
theorem FLd.later (h : FLd w e k N done Z wr) {w' : World} (hb : Below wr.heap.size wr w') : FLd w e k N done Z w' :=
 ⟨aW h.row (az hb) (fun _ _ => id),h.bel.trans (hb.mono h.bel.size)⟩
theorem FLd.cell (h : FLd w e k N done Z wr) (hZ : Z.length = N * k) {j : Nat} (hj : j < N * k) : ∃ v,wr.cell? ⟨w.heap.size,j,none⟩ = some v:=by
 have h1:=h.row.cellAt j hj;have h2:=h.row.1;exact ⟨_,h1.trans (aN ae)⟩
theorem FLd.free (h : FLd w e k N done Z wr) (j : Nat) : wr.frozen? ⟨w.heap.size,j,none⟩ = false:=h.row.frozenAt j
theorem FLd.full (h : FLd w e k N done Z wr) (hZ : Z.length = done.length) : wr.ownsRow w.heap.size e k (.slice (some ⟨w.heap.size,0,none⟩) N N) N done:=by
 have:=h.row
 rwa [List.drop_of_length_le ae,List.append_nil] at this
end
theorem gD {α β : Type} (g : α → List β) (L : List α) {t : Nat} {x : α} (h : L[t]? = some x) : (L.take (t + 1)).flatMap g = (L.take t).flatMap g ++ g x:=by
 rw [List.take_add_one,h]
 simp
theorem i7 {α β : Type} (g : α → List β) (k : Nat) (hk : ∀ x,(g x).length = k) (L : List α) {t : Nat} (h : t ≤ L.length) : ((L.take t).flatMap g).length = t * k:=by
 rw [gu g k hk,List.length_take,Nat.min_eq_left h]
theorem Im {w : World} {base e k N n c : Nat} {a : Option Addr} {xs : List Value} (h : w.ownsRow base e k (.slice a N c) N xs) (hn : n ≤ N) (h0 : a ≠ none) : w.ownsRow base e k (.slice a n c) n (xs.take (n * k)):=by
 have hk : n * k ≤ N * k:=Nat.mul_le_mul_right k hn
 refine ⟨by rw [List.length_take,h.1]; omega,.inr ?_⟩
 rcases h.2 with ⟨h1,_⟩ | ⟨g,cp,cur,h1,h2,h3,h4,h5,h6,h7⟩
 ·injection h1 with h1; exact absurd h1 h0
 ·injection h1 with e1 e2 e3
  subst e1 e3;refine ⟨g,c,cur,rfl,h2,h3,ae,h5,h6,?_⟩;rw [← h7,List.take_take,Nat.min_eq_left hk]
theorem eT {α : Type} {w : World} {base e k n c B : Nat} (g : α → List Value) (hk : ∀ x,(g x).length = k) {l m : List α} (h : w.ownsRow base e k (.slice (some ⟨B,0,none⟩) (n + 64) c) (n + 64) ((l ++ m).flatMap g)) (hl : l.length = n) : w.ownsRow base e k (.slice (some ⟨B,0,none⟩) n c) n (l.flatMap g):=by
 have:=Im h (show n ≤ n + 64 by omega) aq
 rwa [List.flatMap_append,List.take_left' (by rw [gu g k hk,hl])] at this
theorem br {α : Type} {w : World} {base e k N c B : Nat} (g : α → List Value) (hk : ∀ x,(g x).length = k) {L : List α} (h : w.ownsRow base e k (.slice (some ⟨B,0,none⟩) N c) N (L.flatMap g)) (hL : L.length = N) {j : Nat} {x : α} (hj : L[j]? = some x) (q : Nat) (hq : q < k) : w.cell? ⟨B,j * k + q,none⟩ = (g x)[q]?:=by
 have hjn:=aA hj
 have hlt : j * k + q < N * k:=by
  have : (j + 1) * k ≤ N * k:=Nat.mul_le_mul_right k ae;rw [Nat.succ_mul] at this; omega
 rw [h.cellAt _ hlt,sV g k hk L j q hq,hj]; rfl
theorem cY {α : Type} (f : Nat → α) (l : List α) {n t : Nat} (hl : l.length = n) (h0 : n ≤ t) (h1 : t < n + 64) : (l ++ (List.range 64).map fun j => f (n + j))[t]? = some (f t):=by
 rw [List.getElem?_append_right ae,hl,List.getElem?_map,List.getElem?_range ae]
 show some (f (n + (t - n))) = _
 rw [Nat.add_sub_cancel' h0]
theorem dt {α : Type} (m l : List α) {t : Nat} (h : t < l.length) : (l ++ m)[t]? = l[t]?:=List.getElem?_append_left h
theorem CO (n : Int) (h0 : -9223372036854775808 ≤ n) (h1 : n ≤ 9223372036854775807) : (bp n).size ≤ 21:=by
 have:=Lib.itoa_length_le n h0 h1
 simpa [bp,ByteArray.size] using this
theorem OE (B : Nat) (n : Int) (h0 : -9223372036854775808 ≤ n) (h1 : n ≤ 9223372036854775807) (w : World) (ht : eW B w) :
  Calls Tryz.prog 94 #[.int .i64 n] w fun e w' => e = .returned (.string (bp n)) ∧ Below w.heap.size w w':=by
 refine (Tryz.strconv_Itoa n h0 h1 w ht.here).mono ?_;exact tM
theorem mi (i : Int) (w : World) (h0 : 0 ≤ i) (h1 : i ≤ 70368744177664) : Calls Tryz.prog 89 #[.int .i64 9,.int .i64 i] w fun e w' => e = .returned (.int .i64 (9437184 + i + 1)) ∧ w' = w:=by
 go_enter Tryz.func89,Tryz.ntmps89
 exact pA
def txt (i : Nat) : ByteArray:=⟨#[33]⟩ ++ bp (9437184 + (i : Int) + 1)
theorem sM (B i : Nat) (w : World) (hi : i ≤ 70368744177664) (ht : eW B w) :
  Calls Tryz.prog 88 #[.int .i64 9,.int .i64 i] w fun e w' => e = .returned (.string (txt i)) ∧ Below w.heap.size w w':=by
 have HM:=hid (mi i w ae ae);have HI:=hid (OE B (9437184 + (i : Int) + 1) ae ae w ht);have hs:=CO (9437184 + (i : Int) + 1) ae ae;have HT:=hid (show txt i = ⟨#[33]⟩ ++ bp (9437184 + (i : Int) + 1) from rfl);generalize bp (9437184 + (i : Int) + 1) = nb at *;have hsz : ¬ (9223372036854775807 < 1 + nb.size):=ae;clear ht
 go_enter Tryz.func88,Tryz.ntmps88
 go_wp2_with fail;refine HM.out.mono ?_;rintro e w' ⟨rfl,hw⟩;have hw2:=hw.symm;subst hw2;go_wp2_with fail;refine HI.out.mono ?_;rintro e w2 ⟨rfl,hb⟩;have HB:=hid hb;clear hb;go_wp2_with fail;go_ret
 exact ⟨by rw [HT.out]; rfl,HB.out⟩
end Go.Proofs.YtheefojaplnnoaaGreatDoor
