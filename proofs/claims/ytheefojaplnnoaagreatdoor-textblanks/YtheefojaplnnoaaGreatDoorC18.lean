/-
  Texts Ea Eb Inx Xd Xe Xf Xg Xh Qa Qd Qe Qf Qi Pd.
-/
import Derived.Lib.AppendIntMem
import Derived.Lib.ItoaLen
import Derived.Lib.SlBytesConst
import Derived.Test.YtheefojaplnnoaaGreatDoorC00
import Derived.Test.YtheefojaplnnoaaGreatDoorC03
import Derived.Test.YtheefojaplnnoaaGreatDoorC04
import Derived.Test.YtheefojaplnnoaaGreatDoorC06
import Derived.Test.YtheefojaplnnoaaGreatDoorC17
set_option linter.unusedVariables false
set_option maxRecDepth 100000
set_option maxHeartbeats 16000000
namespace Go.Proofs.YtheefojaplnnoaaGreatDoor
open Go.RowKit
def jt : List Int:=[70,76,71,78,1]
def cS (m : MM) : Int:=orE (fU m) (if 65536 < (jt ++ uP m).length then 13 else 0)
theorem Far.later {w W : World} {R g : Nat} {a : Option Addr} (h : Far w R g a) (hb : Below w.heap.size w W) : Far W R g a:=fun b off c hh => ⟨(h b off c hh).1,(h b off c hh).2.1,Nat.lt_of_lt_of_le (h b off c hh).2.2 hb.size⟩
theorem MOk.later {w W : World} {R g : Nat} {m : MM} (h : MOk w R g m) (hb : Below w.heap.size w W) : MOk W R g m:=by
 have hk : aP (fun _ => False) w W:=bA hb
 refine ⟨h.pt.kept hk (fun _ _ _ _ => id),h.tf.later hb,h.ph.kept hk (fun _ _ _ _ => id),h.hf.later hb,h.hr,h.pg.kept hk (fun _ _ _ _ => id),h.gf.later hb,h.gr,h.i0,h.i1,h.o0,h.o1,h.pf.kept hk (fun _ _ _ _ => id),h.ff.later hb,fun j x hj => ?_,h.pd.kept hk (fun _ _ _ _ => id),h.df.later hb,fun j x hj => ?_,h.pe.kept hk (fun _ _ _ _ => id),h.ef.later hb,h.er⟩
 ·obtain ⟨a1,a2,a3,a4⟩:=h.fr j x hj
  refine ⟨a1,a2.kept hk (fun _ _ _ _ => id),a3.later hb,fun i y hi => ?_⟩
  obtain ⟨b1,b2,b3,b4⟩:=a4 i y hi
  exact ⟨b1,b2,b3.kept' hk (fun _ _ _ _ => id),b4.later hb⟩
 ·obtain ⟨a1,a2,a3⟩:=h.dr j x hj
  exact ⟨a1,a2.kept' hk (fun _ _ _ _ => id),a3.later hb⟩
def fT (w : World) (m : MM) : World:=((w.alloc (.cells (mV m) 29)).alloc (gW none 0 0)).alloc (cG 0)
def W22 (w : World) (m : MM) : World:=((fT w m).alloc (.cells #[.int .u8 70,.int .u8 76,.int .u8 71,.int .u8 78,.int .u8 1] 5 (5,6))).alloc (.cells #[.slice (some ⟨w.heap.size + 1 + 1 + 1,0,none⟩) 5 5] 152)
theorem Dg (w : World) (m : MM) : Below w.heap.size w (W22 w m) ∧ (W22 w m).heap.size = w.heap.size + 1 + 1 + 1 + 1 + 1 ∧ Wr (W22 w m) (w.heap.size + 1 + 1 + 1 + 1) (w.heap.size + 1 + 1 + 1) 5 jt ∧
  (W22 w m).heap[w.heap.size]? = some (.cells (mV m) 29) ∧ (W22 w m).cell? ⟨w.heap.size + 1,0,none⟩ = some (.slice none 0 0) ∧ (W22 w m).frozen? ⟨w.heap.size + 1,0,none⟩ = false ∧ (W22 w m).cell? ⟨w.heap.size + 1 + 1,0,none⟩ = some (.int .i64 0) ∧ (W22 w m).frozen? ⟨w.heap.size + 1 + 1,0,none⟩ = false:=by
 have za : (fT w m).heap.size = w.heap.size + 1 + 1 + 1:=by simp [fT]
 have zb : ((fT w m).alloc (.cells #[.int .u8 70,.int .u8 76,.int .u8 71,.int .u8 78,.int .u8 1] 5 (5,6))).heap.size = w.heap.size + 1 + 1 + 1 + 1:=by simp [fT]
 have B1 : Below w.heap.size w (fT w m):=(((Below.refl _ w).alloc (Nat.le_refl _) _).alloc ar _).alloc bM _;have B2:=ag (fT w m) (.cells #[.int .u8 70,.int .u8 76,.int .u8 71,.int .u8 78,.int .u8 1] 5 (5,6));have B3:=ag ((fT w m).alloc (.cells #[.int .u8 70,.int .u8 76,.int .u8 71,.int .u8 78,.int .u8 1] 5 (5,6))) (.cells #[.slice (some ⟨w.heap.size + 1 + 1 + 1,0,none⟩) 5 5] 152)
 have hb : ∀ k,k < w.heap.size + 1 + 1 + 1 → (W22 w m).heap[k]? = (fT w m).heap[k]?:=fun k hk => (B3.block k ae).trans (B2.block k ae)
 have hg:=(MapKept.heap_alloc (fT w m) (.cells #[.int .u8 70,.int .u8 76,.int .u8 71,.int .u8 78,.int .u8 1] 5 (5,6))).1;rw [za] at hg;have hg' : (W22 w m).heap[w.heap.size + 1 + 1 + 1]? = some (.cells #[.int .u8 70,.int .u8 76,.int .u8 71,.int .u8 78,.int .u8 1] 5 (5,6)):=(B3.block _ ae).trans hg;have hR:=(MapKept.heap_alloc ((fT w m).alloc (.cells #[.int .u8 70,.int .u8 76,.int .u8 71,.int .u8 78,.int .u8 1] 5 (5,6))) (.cells #[.slice (some ⟨w.heap.size + 1 + 1 + 1,0,none⟩) 5 5] 152)).1;rw [zb] at hR;have hR' : (W22 w m).heap[w.heap.size + 1 + 1 + 1 + 1]? = some (.cells #[.slice (some ⟨w.heap.size + 1 + 1 + 1,0,none⟩) 5 5] 152):=hR
 have c1 : (fT w m).heap[w.heap.size + 1]? = some (gW none 0 0):=by
  unfold fT;rw [(ag ((w.alloc (.cells (mV m) 29)).alloc (gW none 0 0)) _).block _ ar]
  have:=(MapKept.heap_alloc (w.alloc (.cells (mV m) 29)) (gW none 0 0)).1
  exact bX
 have c2 : (fT w m).heap[w.heap.size + 1 + 1]? = some (cG 0):=by
  have:=(MapKept.heap_alloc ((w.alloc (.cells (mV m) 29)).alloc (gW none 0 0)) (cG 0)).1
  simpa [fT] using this
 have c0 : (fT w m).heap[w.heap.size]? = some (.cells (mV m) 29):=by
  unfold fT;rw [(ag ((w.alloc (.cells (mV m) 29)).alloc (gW none 0 0)) _).block _ bM,(ag (w.alloc (.cells (mV m) 29)) _).block _ ar];exact (MapKept.heap_alloc w _).1
 refine ⟨(B1.trans (B2.mono B1.size)).trans (B3.mono ae),by simp [W22,fT],⟨?_,?_,.inr ⟨rfl,aq,?_,rfl,?_⟩,ae⟩,(hb _ ae).trans c0,?_,?_,?_,?_⟩
 ·simp [World.cell?,hR',jt]
 ·simp [World.frozen?,hR']
 ·simp [W22,fT]
 ·intro j u hj;have hl:=aF hj
  simp [jt] at hl
  simp only [World.cell?,hg']
  have : j = 0 ∨ j = 1 ∨ j = 2 ∨ j = 3 ∨ j = 4:=ae
  rcases this with rfl | rfl | rfl | rfl | rfl <;> simpa [jt] using hj
 ·have:=(hb (w.heap.size + 1) ae).trans c1
  simp [World.cell?,this]
 ·have:=(hb (w.heap.size + 1) ae).trans c1
  simp [World.frozen?,this]
 ·have:=(hb (w.heap.size + 1 + 1) ae).trans c2
  simp [World.cell?,this]
 ·have:=(hb (w.heap.size + 1 + 1) ae).trans c2
  simp [World.frozen?,this]
theorem zo (w : World) (m : MM) : (convert 63 63 (.slice (some ⟨w.heap.size + 1 + 1 + 1,0,none⟩) 5 5)).run Tryz.prog ((((w.alloc (.cells (mV m) 29)).alloc (gW none 0 0)).alloc (cG 0)).alloc (.cells #[.int .u8 70,.int .u8 76,.int .u8 71,.int .u8 78,.int .u8 1] 5)) =
  .ok (.slice (some ⟨w.heap.size + 1 + 1 + 1,0,none⟩) 5 5) ((fT w m).alloc (.cells #[.int .u8 70,.int .u8 76,.int .u8 71,.int .u8 78,.int .u8 1] 5 (5,6))):=by
 have za : (fT w m).heap.size = w.heap.size + 1 + 1 + 1:=by simp [fT]
 have:=Go.Lib.run_convert_bytes_const (P:=Tryz.prog) (fT w m) 63 5 #[.int .u8 70,.int .u8 76,.int .u8 71,.int .u8 78,.int .u8 1] 5 5 Tryz.underlying63 Tryz.underlying5
 rw [za] at this;exact this
theorem N5 (m : MM) (w : World) (hk : aT w) (hm : ∀ R g,w.heap.size ≤ R → w.heap.size ≤ g → MOk w R g m) :
  Calls Tryz.prog 22 #[.agg (mV m)] w fun e w' => Below w.heap.size w w' ∧ (cS m ≠ 0 → e = .returned (.tuple #[.slice none 0 0,.int .i64 (cS m)])) ∧ (cS m = 0 → ∃ a c,e = .returned (.tuple #[.slice a (jt ++ uP m).length c,.int .i64 0])):=by
 have hmf : ∀ (fn : Fn) (first cap : Array Value) (w : World),(Instr.makeFunc fn first cap).run Tryz.prog w = .ok (.func fn first cap) w:=fun _ _ _ _ => rfl
 obtain ⟨B0,z0,hwr,x0,x1,f1,x2,f2⟩:=Dg w m;have HWk:=hid (Mv (w.heap.size + 1 + 1 + 1 + 1) (w.heap.size + 1 + 1 + 1) 5 jt m (W22 w m) hwr aq ae ae (hk.later B0 hk.pos) ((hm _ _ ae ae).later B0));have hcv:=zo w m;have hW : ((fT w m).alloc (.cells #[.int .u8 70,.int .u8 76,.int .u8 71,.int .u8 78,.int .u8 1] 5 (5,6))).alloc (.cells #[.slice (some ⟨w.heap.size + 1 + 1 + 1,0,none⟩) 5 5] 152) = W22 w m:=rfl
 have za : ((fT w m).alloc (.cells #[.int .u8 70,.int .u8 76,.int .u8 71,.int .u8 78,.int .u8 1] 5 (5,6))).heap.size = w.heap.size + 1 + 1 + 1 + 1:=by simp [fT]
 obtain ⟨⟨m0,m1,m2,m3,m4,m5,m6,m7⟩,_⟩:=av x0;have BW:=hid B0;generalize W22 w m = W1 at *;generalize (fT w m).alloc (.cells #[.int .u8 70,.int .u8 76,.int .u8 71,.int .u8 78,.int .u8 1] 5 (5,6)) = W0 at *;unfold mV at hcv HWk
 show Calls Tryz.prog 22 #[.agg #[.slice m.ta m.tn m.tc,.slice m.ha m.hn m.hc,.slice m.ga m.gn m.gc,.int .i64 m.fi,.int .i64 m.mo,.slice m.fa m.fn m.fc,.slice m.da m.dn m.dc,.slice m.ea m.en m.ec]] w _
 clear hm hk B0
 go_enter_defers Tryz.func22,Tryz.ntmps22
 go_wp2_with fail;refine HWk.out.mono ?_;rintro e w9 ⟨hyes,hno⟩
 by_cases hx : fU m = 0
 rotate_left
 ·obtain ⟨⟨p,rfl⟩,hkept⟩:=hno hx;have hcm : cS m = fU m:=iD hx;have y1:=hkept.cell x1 ae;have y2:=hkept.cell x2 ae;have g1:=(bt (hkept.block (w.heap.size + 1) ae ae) 0).trans f1;have g2:=(bt (hkept.block (w.heap.size + 1 + 1) ae ae) 0).trans f2;have HC:=hid (Ce (fU m) p (w.heap.size + 1) (w.heap.size + 1 + 1) _ _ w9 y1 g1 y2 g2 ae);clear hyes hno HWk;refine leaves_cons (f:=87) (args:=#[.pointer (some ⟨w.heap.size + 1,0,none⟩),.pointer (some ⟨w.heap.size + 1 + 1,0,none⟩)]) ar cE ?_;refine HC.out.mono ?_;rintro e u' w10 ⟨rfl,rfl,q1,q2,q3⟩
  have HB : Hid (Below w.heap.size w w10):=(BW.out.trans ((hkept.to_below (B:=w.heap.size) ae (fun k hk => ae)).mono (Nat.le_refl _))).trans (q3.to_below (by have:=hkept.size; omega) (fun k hk => ae))
  refine (show Go.Leaves Tryz.prog Tryz.f22 _ _ [] FrameMode.returning w10 from ⟨.tuple #[.slice none 0 0,.int .i64 (fU m)],?_,HB.out,fun _ => ?_,fun h0 => absurd (hcm.symm.trans h0) hx⟩)
  ·simp [results,Tryz.results22,go_sem,q1,q2]
  ·rw [hcm]
 ·obtain ⟨v,rfl,g',cap',hw9,hkept⟩:=hyes hx;have y1:=hkept.cell x1 ae;have y2:=hkept.cell x2 ae;have g1:=(bt (hkept.block (w.heap.size + 1) ae ae) 0).trans f1;have g2:=(bt (hkept.block (w.heap.size + 1 + 1) ae ae) 0).trans f2;have c9:=hw9.c0;have hK9:=hid hkept;have hz9:=hkept.size;have hcm : cS m = if 65536 < (jt ++ uP m).length then 13 else 0:=aY hx
  have HB9 : Hid (Below w.heap.size w w9):=BW.out.trans ((hkept.to_below (B:=w.heap.size) ae (fun k hk => ae)).mono (Nat.le_refl _))
  clear hyes hno HWk m0 m1 m2 m3 m4 m5 m6 m7 hwr x0 x1 x2 f1 f2 hkept;obtain ⟨E,hE⟩ : ∃ E,jt ++ uP m = E:=⟨_,rfl⟩;rw [hE] at c9 hcm hw9;have HE:=hid hE;clear hE
  by_cases hlong : 65536 < E.length
  ·have hd : decide ((E.length : Int) ≤ 65536) = false:=aL;rw [if_pos hlong] at hcm;go_wp2_with fail
   refine (eF (by first | rfl | exact hd)).mono ?_
   rintro e w9' ⟨rfl,rfl⟩;have HC:=hid (Ce 13 0 (w.heap.size + 1) (w.heap.size + 1 + 1) _ _ w9' y1 g1 y2 g2 ae);refine leaves_cons (f:=87) (args:=#[.pointer (some ⟨w.heap.size + 1,0,none⟩),.pointer (some ⟨w.heap.size + 1 + 1,0,none⟩)]) ar cE ?_;refine HC.out.mono ?_;rintro e u' w10 ⟨rfl,rfl,q1,q2,q3⟩
   have HB : Hid (Below w.heap.size w w10):=HB9.out.trans (q3.to_below ae (fun k hk => ae))
   refine (show Go.Leaves Tryz.prog Tryz.f22 _ _ [] FrameMode.returning w10 from ⟨.tuple #[.slice none 0 0,.int .i64 13],?_,HB.out,fun _ => ?_,fun h0 => by rw [hcm] at h0; cases h0⟩)
   ·simp [results,Tryz.results22,go_sem,q1,q2]
   ·rw [hcm]
  ·have hd : decide ((E.length : Int) ≤ 65536) = true:=aL;rw [if_neg hlong] at hcm;go_wp2_with fail
   refine (cr (by first | rfl | exact hd)).mono ?_
   rintro e w9' ⟨rfl,rfl⟩;go_wp2_with fail;generalize hW9 : w9'.setCell ⟨w.heap.size + 1,0,none⟩ (.slice (some ⟨g',0,none⟩) E.length cap') = Wa at *
   have k1 : Wa.cell? ⟨w.heap.size + 1,0,none⟩ = some (.slice (some ⟨g',0,none⟩) E.length cap'):=by rw [← hW9]; exact World.cell?_setCell_same _ _ _ y1
   have k2 : Wa.cell? ⟨w.heap.size + 1 + 1,0,none⟩ = some (.int .i64 0):=by rw [← hW9,World.cell?_setCell_other _ _ _ _ ar]; exact y2
   have K1 : Below w.heap.size w9' Wa:=by rw [← hW9]; exact (az w9' (w.heap.size + 1) 0 _).to_below ae (fun k hk => ae)
   have zz : Wa.heap.size = w9'.heap.size:=by rw [← hW9]; simp [World.setCell]
   generalize hWb : Wa.setCell ⟨w.heap.size + 1 + 1,0,none⟩ (.int .i64 0) = Wb at *
   have n1 : Wb.cell? ⟨w.heap.size + 1,0,none⟩ = some (.slice (some ⟨g',0,none⟩) E.length cap'):=by rw [← hWb,World.cell?_setCell_other _ _ _ _ ar]; exact k1
   have n2 : Wb.cell? ⟨w.heap.size + 1 + 1,0,none⟩ = some (.int .i64 0):=by rw [← hWb]; exact World.cell?_setCell_same _ _ _ k2
   have K2 : Below w.heap.size Wa Wb:=by rw [← hWb]; exact (az Wa (w.heap.size + 1 + 1) 0 _).to_below ae (fun k hk => ae)
   refine leaves_cons (f:=87) (args:=#[.pointer (some ⟨w.heap.size + 1,0,none⟩),.pointer (some ⟨w.heap.size + 1 + 1,0,none⟩)]) ar cE ?_;refine (Mp _ _ _).mono ?_;rintro e u' w10 ⟨rfl,rfl,hb10⟩
   have q1:=(hb10.cell (by exact block_lt_of_cell n1)).trans n1
   have q2:=(hb10.cell (by exact block_lt_of_cell n2)).trans n2
   have HB : Hid (Below w.heap.size w w10):=((HB9.out.trans K1).trans K2).trans (hb10.mono (by have:=K2.size; omega))
   refine (show Go.Leaves Tryz.prog Tryz.f22 _ _ [] FrameMode.returning w10 from ⟨.tuple #[.slice (some ⟨g',0,none⟩) E.length cap',.int .i64 0],?_,HB.out,fun h0 => absurd hcm h0,fun _ => ⟨some ⟨g',0,none⟩,cap',?_⟩⟩)
   ·simp [results,Tryz.results22,go_sem,q1,q2]
   ·rw [HE.out]
theorem zQ (m : MM) (w : World) (hk : aT w) (hm : ∀ R g,w.heap.size ≤ R → w.heap.size ≤ g → MOk w R g m) :
  Calls Tryz.prog 31 #[.agg (mV m)] w fun e w' => e = .returned (.int .i64 (cS m)) ∧ Below w.heap.size w w':=by
 have B1:=ag w (.cells (mV m) 29)
 have HE:=hid (N5 m (w.alloc (.cells (mV m) 29)) (hk.later B1 hk.pos) (fun R g h1 h2 => (hm R g (by simp at h1; omega) (by simp at h2; omega)).later B1))
 have hb:=(MapKept.heap_alloc w (.cells (mV m) 29)).1;have BW:=hid B1;obtain ⟨⟨m0,m1,m2,m3,m4,m5,m6,m7⟩,_⟩:=av hb;have HW : w.alloc (ck m.ta m.tn m.tc m.ha m.hn m.hc m.ga m.gn m.gc m.fi m.mo m.fa m.fn m.fc m.da m.dn m.dc m.ea m.en m.ec) = w.alloc (.cells (mV m) 29):=rfl;generalize w.alloc (.cells (mV m) 29) = W1 at *;unfold mV at HE
 show Calls Tryz.prog 31 #[.agg #[.slice m.ta m.tn m.tc,.slice m.ha m.hn m.hc,.slice m.ga m.gn m.gc,.int .i64 m.fi,.int .i64 m.mo,.slice m.fa m.fn m.fc,.slice m.da m.dn m.dc,.slice m.ea m.en m.ec]] w _
 clear hm hk B1
 go_enter Tryz.func31,Tryz.ntmps31
 go_wp2_with fail;refine HE.out.mono ?_;rintro e w2 ⟨hb2,hno,hyes⟩;have HB:=hid (gZ BW.out hb2)
 by_cases hx : cS m = 0
 ·obtain ⟨a,c,rfl⟩:=hyes hx;go_wp2_with fail;go_ret;exact ⟨kZ,HB.out⟩
 ·obtain rfl:=hno hx;go_wp2_with fail;go_ret;exact ⟨rfl,HB.out⟩
theorem Fl {w : World} {o : Obj} {b : Nat} (h : w.heap.size = b) : (w.alloc o).heap[b]? = some o:=by subst h; exact heap_alloc_new w o
theorem xy {α β : Type} (g : α → List β) (k : Nat) (hk : ∀ x,(g x).length = k) : ∀ (l : List α) (i q : Nat),q < k → (l.flatMap g)[i * k + q]? = (l[i]?).bind fun x => (g x)[q]?
 | [],i,q,_ => by simp
 | x :: l,0,q,hq => by
  rw [List.flatMap_cons,List.getElem?_append_left (by rw [hk]; omega)]
  simp
 | x :: l,i + 1,q,hq => by
  have ih:=xy g k hk l i q hq
  rw [List.flatMap_cons,List.getElem?_append_right (by rw [hk,Nat.succ_mul]; omega),hk]
  rw [show (i + 1) * k + q - k = i * k + q by rw [Nat.succ_mul]; omega,ih]
  simp
theorem lV {α β : Type} (g : α → List β) (k : Nat) (hk : ∀ x,(g x).length = k) : ∀ (l : List α),(l.flatMap g).length = l.length * k
 | [] => by simp
 | x :: l => by rw [List.flatMap_cons,List.length_append,hk,lV g k hk l,List.length_cons,Nat.succ_mul]; omega
theorem iT {S : Nat → Prop} {w w' : World} {base e k n : Nat} {v : Value} {xs : List Value} (h : w.ownsRow base e k v n xs) (hk : aP S w w') (hs : ∀ b,v.ownBlock = some b → ¬ S b) : w'.ownsRow base e k v n xs:=by
 refine ⟨h.1,?_⟩
 rcases h.2 with h0 | ⟨g,cp,cur,rfl,h2,h3,h4⟩
 ·exact .inl h0
 ·exact .inr ⟨g,cp,cur,rfl,h2,(hk.block g (aS h3) (hs g rfl)).trans h3,h4⟩
theorem ML {w : World} {base e k n b : Nat} {v : Value} {xs : List Value} (h : w.ownsRow base e k v n xs) (hb : v.ownBlock = some b) : base ≤ b ∧ b < w.heap.size ∧ ∃ cur,w.heap[b]? = some (.cells cur e):=by
 rcases h.2 with ⟨h0,_⟩ | ⟨g,cp,cur,rfl,h2,h3,h4⟩
 ·rw [h0] at hb; cases hb
 ·obtain rfl : g = b:=rL;exact ⟨h2,aS h3,cur,h3⟩
def dD (y : FuM) : List Value:=[.int .i64 y.1,.string y.2.1,.slice y.2.2.1.1 y.2.2.1.2.1 y.2.2.1.2.2]
def mL (y : DaM) : List Value:=[.int .i64 y.1,.slice y.2.1.1 y.2.1.2.1 y.2.1.2.2]
def mM (x : Sg) : List Value:=[.string x.1,.string x.2]
def dW (x : Gl) : List Value:=[.int .u8 x.1,.bool x.2.1,.int .u64 x.2.2]
def mz (x : Ex) : List Value:=[.string x.1,.int .i64 x.2]
def ir (x : Int) : List Value:=[.int .i64 x]
structure FLd (w : World) (e k N : Nat) (done Z : List Value) (wr : World) : Prop where
 row : wr.ownsRow w.heap.size e k (.slice (some ⟨w.heap.size,0,none⟩) N N) N (done ++ Z.drop done.length)
 bel : Below w.heap.size w wr
section
variable {w : World} {e k N : Nat} {done Z : List Value} {wr : World}
theorem FLd.lt (h : FLd w e k N done Z wr) : w.heap.size < wr.heap.size:=(ML h.row rfl).2.1
theorem FLd.put (h : FLd w e k N done Z wr) {j : Nat} (hj : done.length = j) (hlt : j < Z.length) (v : Value) : FLd w e k N (done ++ [v]) Z (wr.setCell ⟨w.heap.size,j,none⟩ v):=by
 subst hj;have h1:=(h.row.stored done.length v).1
 have he : (done ++ Z.drop done.length).set done.length v = (done ++ [v]) ++ Z.drop (done ++ [v]).length:=by
  have hd : (Z.drop done.length).set 0 v = v :: Z.drop (done.length + 1):=by
   rw [List.drop_eq_getElem_cons hlt]; rfl
  rw [List.set_append_right _ _ (Nat.le_refl _),Nat.sub_self,hd]
  simp
 rw [he] at h1;exact ⟨h1,h.bel.setCell ar _⟩
theorem FLd.later (h : FLd w e k N done Z wr) {w' : World} (hb : Below wr.heap.size wr w') : FLd w e k N done Z w' :=
 ⟨iT h.row (bA hb) (fun _ _ => id),h.bel.trans (hb.mono h.bel.size)⟩
theorem FLd.cell (h : FLd w e k N done Z wr) (hZ : Z.length = N * k) {j : Nat} (hj : j < N * k) : ∃ v,wr.cell? ⟨w.heap.size,j,none⟩ = some v:=by
 have h1:=h.row.cellAt j hj;have h2:=h.row.1;exact ⟨_,h1.trans (aD ae)⟩
theorem FLd.free (h : FLd w e k N done Z wr) (j : Nat) : wr.frozen? ⟨w.heap.size,j,none⟩ = false:=h.row.frozenAt j
theorem FLd.full (h : FLd w e k N done Z wr) (hZ : Z.length = done.length) : wr.ownsRow w.heap.size e k (.slice (some ⟨w.heap.size,0,none⟩) N N) N done:=by
 have:=h.row
 rwa [List.drop_of_length_le ae,List.append_nil] at this
end
theorem jK {α : Type} {w : World} {base e k N c B : Nat} (g : α → List Value) (hk : ∀ x,(g x).length = k) {L : List α} (h : w.ownsRow base e k (.slice (some ⟨B,0,none⟩) N c) N (L.flatMap g)) (hL : L.length = N) {j : Nat} {x : α} (hj : L[j]? = some x) (q : Nat) (hq : q < k) : w.cell? ⟨B,j * k + q,none⟩ = (g x)[q]?:=by
 have hjn:=aF hj
 have hlt : j * k + q < N * k:=by
  have : (j + 1) * k ≤ N * k:=Nat.mul_le_mul_right k ae;rw [Nat.succ_mul] at this; omega
 rw [h.cellAt _ hlt,xy g k hk L j q hq,hj]; rfl
theorem PJ (a1 a2 : Option Addr) (n c1 c2 : Nat) (l : List Sg) (w : World) (h1 : gJ w a1 n l) (h2 : gJ w a2 n l) (hn : n ≤ 1000000) :
  Calls Tryz.prog 40 #[.slice a1 n c1,.slice a2 n c2] w fun e w' => e = .returned (.bool true) ∧ Below w.heap.size w w':=by
 have hne : ((n : Int) != n) = false:=ar;have H1:=hid h1;have H2:=hid h2;have hll:=h1.1;clear h1 h2
 go_enter Tryz.func40,Tryz.ntmps40
 exact IJ
theorem PG (a1 a2 : Option Addr) (n c1 c2 : Nat) (l : List Gl) (w : World) (h1 : nS w a1 n l) (h2 : nS w a2 n l) (hn : n ≤ 1000000) :
  Calls Tryz.prog 42 #[.slice a1 n c1,.slice a2 n c2] w fun e w' => e = .returned (.bool true) ∧ Below w.heap.size w w':=by
 have hne : ((n : Int) != n) = false:=ar;have H1:=hid h1;have H2:=hid h2;have hll:=h1.1;clear h1 h2
 go_enter Tryz.func42,Tryz.ntmps42
 go_wp2_with fail
 go_loopw [5] (fun p wr => ∃ t : Nat,t ≤ n ∧ p = .int .i64 t ∧ Hid (Below w.heap.size w wr)) (fun p _ => n - (intOf p).toNat)
 case atStart => exact ⟨0,ae,rfl,hid (Below.refl _ _)⟩
 case round =>
  obtain ⟨t,ht,rfl,HB⟩:=hrel
  by_cases hlt : t < n
  ·have hlt' : (t : Int) < (n : Int):=ae;obtain ⟨x,hx⟩ : ∃ x,l[t]? = some x:=⟨_,aD ae⟩;obtain ⟨b1,o1,rfl,hat1⟩:=H1.out.2.resolve_left ae;obtain ⟨b2,o2,rfl,hat2⟩:=H2.out.2.resolve_left ae;obtain ⟨e10,e11,e12⟩:=hat1 t x hx;have e10:=aw HB.out e10;have e11:=aw HB.out e11;have e12:=aw HB.out e12;obtain ⟨e20,e21,e22⟩:=hat2 t x hx;have e20:=aw HB.out e20;have e21:=aw HB.out e21;have e22:=aw HB.out e22;clear hat1 hat2 hx
   have HBD:=hid (fun (n : Nat) => (show Below w.heap.size w (wr.drewN n) from lG HB.out (aP.drewN (fun _ => False) _ n) HB.out.size (fun _ x => x.elim)))
   obtain ⟨x0,x1,x2⟩:=x;exact sA
  ·exact oW
theorem PL (a1 a2 : Option Addr) (n c1 c2 : Nat) (l : List Ex) (w : World) (h1 : lm w a1 n l) (h2 : lm w a2 n l) (hn : n ≤ 1000000) :
  Calls Tryz.prog 45 #[.slice a1 n c1,.slice a2 n c2] w fun e w' => e = .returned (.bool true) ∧ Below w.heap.size w w':=by
 have hne : ((n : Int) != n) = false:=ar;have H1:=hid h1;have H2:=hid h2;have hll:=h1.1;clear h1 h2
 go_enter Tryz.func45,Tryz.ntmps45
 exact IJ
def qL (x : Int) : List Value:=[.int .u8 x]
def uM (w : World) (a : Option Addr) (n : Nat) (xs : List Int) : Prop :=
 xs.length = n ∧ (n = 0 ∨ ∃ b off,a = some ⟨b,off,none⟩ ∧ ∀ (j : Nat) x,xs[j]? = some x → w.cell? ⟨b,off + j,none⟩ = some (.int .u8 x))
theorem uM.of {w : World} {a : Option Addr} {n c : Nat} {zs : List Int} (h : Seg w a n c zs) : uM w a n zs:=by
 obtain ⟨hl,_,_,_,hc⟩:=h
 refine ⟨hl,hc.imp id fun ⟨b,off,e,hc⟩ => ⟨b,off,e,fun j x hj => ?_⟩⟩
 have hjl:=aF hj
 rw [hc j ae,List.getD_eq_getElem?_getD,hj]; rfl
theorem PC (a1 a2 : Option Addr) (n c1 c2 : Nat) (l : List Int) (w : World) (h1 : uM w a1 n l) (h2 : uM w a2 n l) (hn : n ≤ 1000000) :
  Calls Tryz.prog 23 #[.slice a1 n c1,.slice a2 n c2] w fun e w' => e = .returned (.bool true) ∧ Below w.heap.size w w':=by
 have hne : ((n : Int) != n) = false:=ar;have H1:=hid h1;have H2:=hid h2;have hll:=h1.1;clear h1 h2
 go_enter Tryz.func23,Tryz.ntmps23
 exact GW
theorem Oj (a1 a2 : Option Addr) (n c1 c2 : Nat) (l : List Int) (w : World) (h1 : jY w a1 n l) (h2 : jY w a2 n l) (hn : n ≤ 1000000) :
  Calls Tryz.prog 41 #[.slice a1 n c1,.slice a2 n c2] w fun e w' => e = .returned (.bool true) ∧ Below w.heap.size w w':=by
 have hne : ((n : Int) != n) = false:=ar;have H1:=hid h1;have H2:=hid h2;have hll:=h1.1;clear h1 h2
 go_enter Tryz.func41,Tryz.ntmps41
 exact GW
def dX (y : InM) : List Value:=[.int .u8 y.1,.int .i64 y.2.1,.slice y.2.2.1.1 y.2.2.1.2.1 y.2.2.1.2.2]
def qH (w : World) (x : InM) : Prop:=jY w x.2.2.1.1 x.2.2.1.2.1 x.2.2.2 ∧ x.2.2.1.2.1 ≤ 200000
def pY (w : World) (x : DaM) : Prop:=uM w x.2.1.1 x.2.1.2.1 x.2.2 ∧ x.2.1.2.1 ≤ 1000000
def pn (w : World) (x : FuM) : Prop:=gV w x.2.2.1.1 x.2.2.1.2.1 x.2.2.2 ∧ x.2.2.1.2.1 ≤ 200000 ∧ ∀ y ∈ x.2.2.2,qH w y
theorem uM.kept {S : Nat → Prop} {w w' : World} {a : Option Addr} {n : Nat} {xs : List Int} (h : uM w a n xs) (hk : aP S w w') (hS : ∀ b off c,a = some ⟨b,off,c⟩ → ¬ S b) : uM w' a n xs :=
 ⟨h.1,h.2.imp id fun ⟨b,off,ha,hc⟩ => ⟨b,off,ha,fun j x hj => hk.cell (hc j x hj) (hS _ _ _ ha)⟩⟩
theorem qH.later {w w' : World} {x : InM} (h : qH w x) (hb : Below w.heap.size w w') : qH w' x:=⟨h.1.kept (bA hb) (fun _ _ _ _ => id),h.2⟩
theorem pY.later {w w' : World} {x : DaM} (h : pY w x) (hb : Below w.heap.size w w') : pY w' x:=⟨h.1.kept (bA hb) (fun _ _ _ _ => id),h.2⟩
theorem pn.later {w w' : World} {x : FuM} (h : pn w x) (hb : Below w.heap.size w w') : pn w' x:=⟨h.1.kept (bA hb) (fun _ _ _ _ => id),h.2.1,fun y hy => (h.2.2 y hy).later hb⟩
def Ht (x y : InM) : Prop:=y.1 = x.1 ∧ y.2.1 = x.2.1 ∧ y.2.2.1.2.1 = x.2.2.1.2.1 ∧ y.2.2.2 = x.2.2.2
def EK (x y : DaM) : Prop:=y.1 = x.1 ∧ y.2.1.2.1 = x.2.1.2.1 ∧ y.2.2 = x.2.2
def Eh (x y : FuM) : Prop:=y.1 = x.1 ∧ y.2.1 = x.2.1 ∧ y.2.2.1.2.1 = x.2.2.1.2.1 ∧ y.2.2.2.length = x.2.2.2.length ∧ ∀ (j : Nat) a b,x.2.2.2[j]? = some a → y.2.2.2[j]? = some b → Ht a b
structure MSr (w : World) (m : MM) : Prop where
 pt : gJ w m.ta m.tn m.types
 tn : m.tn ≤ 200000
 ph : jY w m.ha m.hn m.hosts
 hn : m.hn ≤ 200000
 pg : nS w m.ga m.gn m.globals
 gn : m.gn ≤ 200000
 pf : kK w m.fa m.fn m.fns
 fn : m.fn ≤ 200000
 fx : ∀ x ∈ m.fns,pn w x
 pd : lI w m.da m.dn m.data
 dn : m.dn ≤ 200000
 dx : ∀ x ∈ m.data,pY w x
 pe : lm w m.ea m.en m.exps
 en : m.en ≤ 200000
theorem MSr.later {w W : World} {m : MM} (h : MSr w m) (hb : Below w.heap.size w W) : MSr W m:=by
 have hk : aP (fun _ => False) w W:=bA hb
 exact ⟨h.pt.kept hk (fun _ _ _ _ => id),h.tn,h.ph.kept hk (fun _ _ _ _ => id),h.hn,h.pg.kept hk (fun _ _ _ _ => id),h.gn,h.pf.kept hk (fun _ _ _ _ => id),h.fn,fun x hx => (h.fx x hx).later hb,h.pd.kept hk (fun _ _ _ _ => id),h.dn,fun x hx => (h.dx x hx).later hb,h.pe.kept hk (fun _ _ _ _ => id),h.en⟩
def iZ (mp : Value) (m : MM) (ln pt : Int) : Array Value:=#[mp,.slice m.ta m.tn m.tc,.slice m.ha m.hn m.hc,.slice m.ga m.gn m.gc,.int .i64 m.fi,.int .i64 m.mo,.slice m.fa m.fn m.fc,.slice m.da m.dn m.dc,.slice m.ea m.en m.ec,.int .i64 ln,.int .i64 pt]
structure FnO (w : World) (base : Nat) (x : FuM) : Prop where
 code : w.ownsRow base 75 3 (.slice x.2.2.1.1 x.2.2.1.2.1 x.2.2.1.2.2) x.2.2.1.2.1 (x.2.2.2.flatMap dX)
 lab : ∀ y ∈ x.2.2.2,w.ownsRow base 3 1 (.slice y.2.2.1.1 y.2.2.1.2.1 y.2.2.1.2.2) y.2.2.1.2.1 (y.2.2.2.flatMap ir)
def fcb (x : FuM) : Option Nat:=(Value.slice x.2.2.1.1 x.2.2.1.2.1 x.2.2.1.2.2).ownBlock
structure RQ (base R : Nat) (mp : Value) (m : MM) (ln pt : Int) (w : World) : Prop where
 blk : w.heap[R]? = some (.cells (iZ mp m ln pt) 126)
 low : R < base
 bw : base ≤ w.heap.size
 rt : w.ownsRow base 73 2 (.slice m.ta m.tn m.tc) m.tn (m.types.flatMap mM)
 rh : w.ownsRow base 3 1 (.slice m.ha m.hn m.hc) m.hn (m.hosts.flatMap ir)
 rg : w.ownsRow base 102 3 (.slice m.ga m.gn m.gc) m.gn (m.globals.flatMap dW)
 rf : w.ownsRow base 78 3 (.slice m.fa m.fn m.fc) m.fn (m.fns.flatMap dD)
 rd : w.ownsRow base 81 2 (.slice m.da m.dn m.dc) m.dn (m.data.flatMap mL)
 re : w.ownsRow base 83 2 (.slice m.ea m.en m.ec) m.en (m.exps.flatMap mz)
 fo : ∀ x ∈ m.fns,FnO w base x
 fd : ∀ (i j : Nat) x y k,m.fns[i]? = some x → m.fns[j]? = some y → i ≠ j → fcb x = some k → fcb y ≠ some k
 dd : ∀ x ∈ m.data,w.ownsRow base 5 1 (.slice x.2.1.1 x.2.1.2.1 x.2.1.2.2) x.2.1.2.1 (x.2.2.flatMap qL)
 nf : pt < 6 → m.fns = []
abbrev KR (base R : Nat) (w w' : World) : Prop:=aP (fun k => k = R ∨ base ≤ k) w w'
theorem gD {w : World} {base e k n : Nat} {v : Value} {xs : List Value} (h : w.ownsRow base e k v n xs) {b : Nat} (hb : v.ownBlock = some b) : base ≤ b ∧ ∃ cur,w.heap[b]? = some (.cells cur e (0,0)):=by
 rcases h.2 with ⟨rfl,_⟩ | ⟨g,cap,cur,rfl,h2,h3,_⟩
 ·simp [Value.ownBlock] at hb
 ·simp only [Value.ownBlock,Option.some.injEq] at hb
  subst hb;exact ⟨h2,cur,h3⟩
theorem dS {w w' : World} {base e k n : Nat} {v : Value} {xs : List Value} (h : w.ownsRow base e k v n xs) (hb : Below w.heap.size w w') : w'.ownsRow base e k v n xs :=
 iT (S:=fun _ => False) h ⟨hb.os,hb.tape,hb.output,hb.size,fun k hk _ => hb.block k hk⟩ (fun _ _ => id)
theorem FnO.later {w w' : World} {base : Nat} {x : FuM} (h : FnO w base x) (hb : Below w.heap.size w w') : FnO w' base x:=⟨dS h.code hb,fun y hy => dS (h.lab y hy) hb⟩
theorem RQ.later {base R : Nat} {mp : Value} {m : MM} {ln pt : Int} {w w' : World} (h : RQ base R mp m ln pt w) (hb : Below w.heap.size w w') : RQ base R mp m ln pt w' :=
 ⟨ak hb h.blk,h.low,Nat.le_trans h.bw hb.size,dS h.rt hb,dS h.rh hb,dS h.rg hb,dS h.rf hb,dS h.rd hb,dS h.re hb,fun x hx => (h.fo x hx).later hb,h.fd,fun x hx => dS (h.dd x hx) hb,h.nf⟩
theorem bD {w : World} {base e k n R o : Nat} {v u : Value} {xs : List Value} (h : w.ownsRow base e k v n xs) (hR : R < base) : (w.setCell ⟨R,o,none⟩ u).ownsRow base e k v n xs :=
 iT (S:=fun k => k = R) h (az w R o u) (fun b hb e => by have:=(gD h hb).1; omega)
theorem RQ.set {base R : Nat} {mp : Value} {m m' : MM} {ln pt ln' pt' : Int} {w : World} (h : RQ base R mp m ln pt w) (o : Nat) (u : Value) (hA : (iZ mp m ln pt).setIfInBounds o u = iZ mp m' ln' pt')
  (e1 : m'.ta = m.ta ∧ m'.tn = m.tn ∧ m'.tc = m.tc ∧ m'.types = m.types) (e2 : m'.ha = m.ha ∧ m'.hn = m.hn ∧ m'.hc = m.hc ∧ m'.hosts = m.hosts) (e3 : m'.ga = m.ga ∧ m'.gn = m.gn ∧ m'.gc = m.gc ∧ m'.globals = m.globals) (e4 : m'.fa = m.fa ∧ m'.fn = m.fn ∧ m'.fc = m.fc ∧ m'.fns = m.fns) (e5 : m'.da = m.da ∧ m'.dn = m.dn ∧ m'.dc = m.dc ∧ m'.data = m.data) (e6 : m'.ea = m.ea ∧ m'.en = m.en ∧ m'.ec = m.ec ∧ m'.exps = m.exps)
  (hp : pt' < 6 → pt < 6) : RQ base R mp m' ln' pt' (w.setCell ⟨R,o,none⟩ u):=by
 obtain ⟨a1,a2,a3,a4⟩:=e1;obtain ⟨b1,b2,b3,b4⟩:=e2;obtain ⟨c1,c2,c3,c4⟩:=e3;obtain ⟨d1,d2,d3,d4⟩:=e4;obtain ⟨f1,f2,f3,f4⟩:=e5;obtain ⟨g1,g2,g3,g4⟩:=e6
 refine ⟨?_,h.low,by simpa [World.setCell] using h.bw,?_,?_,?_,?_,?_,?_,?_,?_,?_,?_⟩
 ·rw [bT h.blk,hA]
 ·rw [a1,a2,a3,a4]; exact bD h.rt h.low
 ·rw [b1,b2,b3,b4]; exact bD h.rh h.low
 ·rw [c1,c2,c3,c4]; exact bD h.rg h.low
 ·rw [d1,d2,d3,d4]; exact bD h.rf h.low
 ·rw [f1,f2,f3,f4]; exact bD h.rd h.low
 ·rw [g1,g2,g3,g4]; exact bD h.re h.low
 ·rw [d4]; exact fun x hx => ⟨bD (h.fo x hx).code h.low,fun y hy => bD ((h.fo x hx).lab y hy) h.low⟩
 ·rw [d4]; exact h.fd
 ·rw [f4]; exact fun x hx => bD (h.dd x hx) h.low
 ·rw [d4]; exact fun hx => h.nf (hp hx)
theorem RQ.part {base R : Nat} {mp : Value} {m : MM} {ln pt : Int} {w : World} (h : RQ base R mp m ln pt w) (q : Int) (hq : pt ≤ q) : RQ base R mp m ln q (w.setCell ⟨R,10,none⟩ (.int .i64 q)) :=
 h.set 10 _ rfl ⟨rfl,rfl,rfl,rfl⟩ ⟨rfl,rfl,rfl,rfl⟩ ⟨rfl,rfl,rfl,rfl⟩ ⟨rfl,rfl,rfl,rfl⟩ ⟨rfl,rfl,rfl,rfl⟩ ⟨rfl,rfl,rfl,rfl⟩ (fun x => ae)
theorem RQ.line {base R : Nat} {mp : Value} {m : MM} {ln pt : Int} {w : World} (h : RQ base R mp m ln pt w) (l : Int) : RQ base R mp m l pt (w.setCell ⟨R,9,none⟩ (.int .i64 l)) :=
 h.set 9 _ rfl ⟨rfl,rfl,rfl,rfl⟩ ⟨rfl,rfl,rfl,rfl⟩ ⟨rfl,rfl,rfl,rfl⟩ ⟨rfl,rfl,rfl,rfl⟩ ⟨rfl,rfl,rfl,rfl⟩ ⟨rfl,rfl,rfl,rfl⟩ id
theorem RQ.cells {base R : Nat} {mp : Value} {m : MM} {ln pt : Int} {w : World} (h : RQ base R mp m ln pt w) (i : Nat) : w.cell? ⟨R,i,none⟩ = (iZ mp m ln pt)[i]?:=aj h.blk
theorem RQ.free {base R : Nat} {mp : Value} {m : MM} {ln pt : Int} {w : World} (h : RQ base R mp m ln pt w) (i : Nat) : w.frozen? ⟨R,i,none⟩ = false:=aK h.blk
theorem KR.set (base R o : Nat) (w : World) (u : Value) : KR base R w (w.setCell ⟨R,o,none⟩ u):=by
 have h:=az w R o u
 exact ⟨h.os,h.tape,h.output,h.size,fun k hk hs => h.block k hk (fun e => hs (.inl e))⟩
theorem KR.later {base R : Nat} {w w' : World} (hb : Below w.heap.size w w') : KR base R w w':=⟨hb.os,hb.tape,hb.output,hb.size,fun k hk _ => hb.block k hk⟩
end Go.Proofs.YtheefojaplnnoaaGreatDoor
