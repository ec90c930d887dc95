/-
  Texts Eb Vaa Vbb Vcc.
-/
import Derived.Deep.OwnRows
import Derived.Test.YtepcmfegggdjfaaGreatDoorQ35
import Derived.Test.YtepcmfegggdjfaaGreatDoorQ36
import Derived.Test.YtepcmfegggdjfaaGreatDoorQ37
set_option linter.unusedVariables false
set_option maxRecDepth 100000
set_option maxHeartbeats 16000000
namespace Go.Proofs.YtepcmfegggdjfaaGreatDoor
open Go.RowKit
theorem conv_magic (w : World) (m : MM) : (convert 49 49 (.slice (some ⟨w.heap.size + 1 + 1 + 1,0,none⟩) 5 5)).run Tryz.prog ((((w.alloc (.cells (mV m) 29)).alloc (.cells #[.slice none 0 0] 49)).alloc (.cells #[.int .i64 0] 38)).alloc (.cells #[.int .u8 70,.int .u8 76,.int .u8 71,.int .u8 78,.int .u8 1] 5)) =
  .ok (.slice (some ⟨w.heap.size + 1 + 1 + 1,0,none⟩) 5 5) ((W22a w m).alloc (.cells #[.int .u8 70,.int .u8 76,.int .u8 71,.int .u8 78,.int .u8 1] 5 (5,6))):=by
 have za : (W22a w m).heap.size = w.heap.size + 1 + 1 + 1:=by simp [W22a]
 have:=Go.Lib.run_convert_bytes_const (P:=Tryz.prog) (W22a w m) 49 5 #[.int .u8 70,.int .u8 76,.int .u8 71,.int .u8 78,.int .u8 1] 5 5 Tryz.underlying49 Tryz.underlying5
 rw [za] at this
 exact this
theorem enc22 (m : MM) (w : World) (hk : KindsOk w) (hm : ∀ R g,w.heap.size ≤ R → w.heap.size ≤ g → MOk w R g m) :
  Calls Tryz.prog 58 #[.agg (mV m)] w fun e w' => Below w.heap.size w w' ∧ (chkMM m ≠ 0 → e = .returned (.tuple #[.slice none 0 0,.int .i64 (chkMM m)])) ∧ (chkMM m = 0 → ∃ a c,e = .returned (.tuple #[.slice a (magicB ++ encW m).length c,.int .i64 0])):=by
 have hmf : ∀ (fn : Fn) (first cap : Array Value) (w : World),(Instr.makeFunc fn first cap).run Tryz.prog w = .ok (.func fn first cap) w:=fun _ _ _ _ => rfl
 obtain ⟨B0,z0,hwr,x0,x1,f1,x2,f2⟩:=w22_facts w m
 have HWk:=hid (walk86 (w.heap.size + 1 + 1 + 1 + 1) (w.heap.size + 1 + 1 + 1) 5 magicB m (W22 w m) hwr (by decide) (by omega) (by omega) (hk.later B0 hk.pos) ((hm _ _ (by omega) (by omega)).later B0))
 have hcv:=conv_magic w m
 have hW : ((W22a w m).alloc (.cells #[.int .u8 70,.int .u8 76,.int .u8 71,.int .u8 78,.int .u8 1] 5 (5,6))).alloc (.cells #[.slice (some ⟨w.heap.size + 1 + 1 + 1,0,none⟩) 5 5] 144) = W22 w m:=rfl
 have za : ((W22a w m).alloc (.cells #[.int .u8 70,.int .u8 76,.int .u8 71,.int .u8 78,.int .u8 1] 5 (5,6))).heap.size = w.heap.size + 1 + 1 + 1 + 1:=by simp [W22a]
 obtain ⟨⟨m0,m1,m2,m3,m4,m5,m6,m7⟩,_⟩:=eight_cells x0
 have BW:=hid B0
 generalize W22 w m = W1 at *
 generalize (W22a w m).alloc (.cells #[.int .u8 70,.int .u8 76,.int .u8 71,.int .u8 78,.int .u8 1] 5 (5,6)) = W0 at *
 unfold mV at hcv HWk
 show Calls Tryz.prog 58 #[.agg #[.slice m.ta m.tn m.tc,.slice m.ha m.hn m.hc,.slice m.ga m.gn m.gc,.int .i64 m.fi,.int .i64 m.mo,.slice m.fa m.fn m.fc,.slice m.da m.dn m.dc,.slice m.ea m.en m.ec]] w _
 clear hm hk B0
 go_enter_defers Tryz.func58,Tryz.ntmps58
 go_wp2_with fail
 refine HWk.out.mono ?_
 rintro e w9 ⟨hyes,hno⟩
 by_cases hx : chkW m = 0
 rotate_left
 ·obtain ⟨⟨p,rfl⟩,hkept⟩:=hno hx
  have hcm : chkMM m = chkW m:=orE_pos hx
  have y1:=hkept.cell x1 (by omega)
  have y2:=hkept.cell x2 (by omega)
  have g1:=(frozen_of_block (hkept.block (w.heap.size + 1) (by omega) (by omega)) 0).trans f1
  have g2:=(frozen_of_block (hkept.block (w.heap.size + 1 + 1) (by omega) (by omega)) 0).trans f2
  have HC:=hid (catch87 (chkW m) p (w.heap.size + 1) (w.heap.size + 1 + 1) _ _ w9 y1 g1 y2 g2 (by omega))
  clear hyes hno HWk
  refine leaves_cons (f:=80) (args:=#[.pointer (some ⟨w.heap.size + 1,0,none⟩),.pointer (some ⟨w.heap.size + 1 + 1,0,none⟩)]) (by simp) (by simp [go_sem]) ?_
  refine HC.out.mono ?_
  rintro e u' w10 ⟨rfl,rfl,q1,q2,q3⟩
  have HB : Hid (Below w.heap.size w w10):=(BW.out.trans ((hkept.to_below (B:=w.heap.size) (by omega) (fun k hk => by omega)).mono (Nat.le_refl _))).trans (q3.to_below (by have:=hkept.size; omega) (fun k hk => by omega))
  refine (show Go.Leaves Tryz.prog Tryz.f58 _ _ [] FrameMode.returning w10 from ⟨.tuple #[.slice none 0 0,.int .i64 (chkW m)],?_,HB.out,fun _ => ?_,fun h0 => absurd (hcm.symm.trans h0) hx⟩)
  ·simp [results,Tryz.results58,go_sem,q1,q2]
  ·rw [hcm]
 ·obtain ⟨v,rfl,g',cap',hw9,hkept⟩:=hyes hx
  have y1:=hkept.cell x1 (by omega)
  have y2:=hkept.cell x2 (by omega)
  have g1:=(frozen_of_block (hkept.block (w.heap.size + 1) (by omega) (by omega)) 0).trans f1
  have g2:=(frozen_of_block (hkept.block (w.heap.size + 1 + 1) (by omega) (by omega)) 0).trans f2
  have c9:=hw9.c0
  have hK9:=hid hkept
  have hz9:=hkept.size
  have hcm : chkMM m = if 65536 < (magicB ++ encW m).length then 13 else 0:=orE_neg hx
  have HB9 : Hid (Below w.heap.size w w9):=BW.out.trans ((hkept.to_below (B:=w.heap.size) (by omega) (fun k hk => by omega)).mono (Nat.le_refl _))
  clear hyes hno HWk m0 m1 m2 m3 m4 m5 m6 m7 hwr x0 x1 x2 f1 f2 hkept
  obtain ⟨E,hE⟩ : ∃ E,magicB ++ encW m = E:=⟨_,rfl⟩
  rw [hE] at c9 hcm hw9
  have HE:=hid hE
  clear hE
  by_cases hlong : 65536 < E.length
  ·have hd : decide ((E.length : Int) ≤ 65536) = false:=by simp; omega
   rw [if_pos hlong] at hcm
   go_wp2_with fail
   refine (bars_of (by first | rfl | exact hd)).mono ?_
   rintro e w9' ⟨rfl,rfl⟩
   have HC:=hid (catch87 13 0 (w.heap.size + 1) (w.heap.size + 1 + 1) _ _ w9' y1 g1 y2 g2 (by omega))
   refine leaves_cons (f:=80) (args:=#[.pointer (some ⟨w.heap.size + 1,0,none⟩),.pointer (some ⟨w.heap.size + 1 + 1,0,none⟩)]) (by simp) (by simp [go_sem]) ?_
   refine HC.out.mono ?_
   rintro e u' w10 ⟨rfl,rfl,q1,q2,q3⟩
   have HB : Hid (Below w.heap.size w w10):=HB9.out.trans (q3.to_below (by omega) (fun k hk => by omega))
   refine (show Go.Leaves Tryz.prog Tryz.f58 _ _ [] FrameMode.returning w10 from ⟨.tuple #[.slice none 0 0,.int .i64 13],?_,HB.out,fun _ => ?_,fun h0 => by rw [hcm] at h0; cases h0⟩)
   ·simp [results,Tryz.results58,go_sem,q1,q2]
   ·rw [hcm]
  ·have hd : decide ((E.length : Int) ≤ 65536) = true:=by simp; omega
   rw [if_neg hlong] at hcm
   go_wp2_with fail
   refine (asks_of (by first | rfl | exact hd)).mono ?_
   rintro e w9' ⟨rfl,rfl⟩
   go_wp2_with fail
   generalize hW9 : w9'.setCell ⟨w.heap.size + 1,0,none⟩ (.slice (some ⟨g',0,none⟩) E.length cap') = Wa at *
   have k1 : Wa.cell? ⟨w.heap.size + 1,0,none⟩ = some (.slice (some ⟨g',0,none⟩) E.length cap'):=by rw [← hW9]; exact World.cell?_setCell_same _ _ _ y1
   have k2 : Wa.cell? ⟨w.heap.size + 1 + 1,0,none⟩ = some (.int .i64 0):=by rw [← hW9,World.cell?_setCell_other _ _ _ _ (by simp)]; exact y2
   have K1 : Below w.heap.size w9' Wa:=by rw [← hW9]; exact (kept_set w9' (w.heap.size + 1) 0 _).to_below (by omega) (fun k hk => by omega)
   have zz : Wa.heap.size = w9'.heap.size:=by rw [← hW9]; simp [World.setCell]
   generalize hWb : Wa.setCell ⟨w.heap.size + 1 + 1,0,none⟩ (.int .i64 0) = Wb at *
   have n1 : Wb.cell? ⟨w.heap.size + 1,0,none⟩ = some (.slice (some ⟨g',0,none⟩) E.length cap'):=by rw [← hWb,World.cell?_setCell_other _ _ _ _ (by simp)]; exact k1
   have n2 : Wb.cell? ⟨w.heap.size + 1 + 1,0,none⟩ = some (.int .i64 0):=by rw [← hWb]; exact World.cell?_setCell_same _ _ _ k2
   have K2 : Below w.heap.size Wa Wb:=by rw [← hWb]; exact (kept_set Wa (w.heap.size + 1 + 1) 0 _).to_below (by omega) (fun k hk => by omega)
   refine leaves_cons (f:=80) (args:=#[.pointer (some ⟨w.heap.size + 1,0,none⟩),.pointer (some ⟨w.heap.size + 1 + 1,0,none⟩)]) (by simp) (by simp [go_sem]) ?_
   refine (idle87 _ _ _).mono ?_
   rintro e u' w10 ⟨rfl,rfl,hb10⟩
   have q1:=(hb10.cell (by exact block_lt_of_cell n1)).trans n1
   have q2:=(hb10.cell (by exact block_lt_of_cell n2)).trans n2
   have HB : Hid (Below w.heap.size w w10):=((HB9.out.trans K1).trans K2).trans (hb10.mono (by have:=K2.size; omega))
   refine (show Go.Leaves Tryz.prog Tryz.f58 _ _ [] FrameMode.returning w10 from ⟨.tuple #[.slice (some ⟨g',0,none⟩) E.length cap',.int .i64 0],?_,HB.out,fun h0 => absurd hcm h0,fun _ => ⟨some ⟨g',0,none⟩,cap',?_⟩⟩)
   ·simp [results,Tryz.results58,go_sem,q1,q2]
   ·rw [HE.out]
theorem check31 (m : MM) (w : World) (hk : KindsOk w) (hm : ∀ R g,w.heap.size ≤ R → w.heap.size ≤ g → MOk w R g m) :
  Calls Tryz.prog 34 #[.agg (mV m)] w fun e w' => e = .returned (.int .i64 (chkMM m)) ∧ Below w.heap.size w w':=by
 have B1:=below_new w (.cells (mV m) 29)
 have HE:=hid (enc22 m (w.alloc (.cells (mV m) 29)) (hk.later B1 hk.pos) (fun R g h1 h2 => (hm R g (by simp at h1; omega) (by simp at h2; omega)).later B1))
 have hb:=(MapKept.heap_alloc w (.cells (mV m) 29)).1
 have BW:=hid B1
 obtain ⟨⟨m0,m1,m2,m3,m4,m5,m6,m7⟩,_⟩:=eight_cells hb
 have HW : w.alloc (.cells #[.slice m.ta m.tn m.tc,.slice m.ha m.hn m.hc,.slice m.ga m.gn m.gc,.int .i64 m.fi,.int .i64 m.mo,.slice m.fa m.fn m.fc,.slice m.da m.dn m.dc,.slice m.ea m.en m.ec] 29) = w.alloc (.cells (mV m) 29):=rfl
 generalize w.alloc (.cells (mV m) 29) = W1 at *
 unfold mV at HE
 show Calls Tryz.prog 34 #[.agg #[.slice m.ta m.tn m.tc,.slice m.ha m.hn m.hc,.slice m.ga m.gn m.gc,.int .i64 m.fi,.int .i64 m.mo,.slice m.fa m.fn m.fc,.slice m.da m.dn m.dc,.slice m.ea m.en m.ec]] w _
 clear hm hk B1
 go_enter Tryz.func34,Tryz.ntmps34
 go_wp2_with fail
 refine HE.out.mono ?_
 rintro e w2 ⟨hb2,hno,hyes⟩
 have HB:=hid (below_then BW.out hb2)
 by_cases hx : chkMM m = 0
 ·obtain ⟨a,c,rfl⟩:=hyes hx
  go_wp2_with fail
  go_ret
  exact ⟨by rw [hx]; rfl,HB.out⟩
 ·obtain rfl:=hno hx
  go_wp2_with fail
  go_ret
  exact ⟨rfl,HB.out⟩
section
variable {v : Ev} {w1 w : World} {s : Cs}
theorem body70 (P R : ByteArray) : Calls Tryz.prog 60 #[.agg #[.string P,.string R]] w fun e w' => e = .returned (.agg #[.string ⟨#[]⟩,.string R,.string ⟨#[]⟩,.int .u8 0,.int .i64 0]) ∧ Below w.heap.size w w':=by
 go_enter Tryz.func60,Tryz.ntmps60
 go_wp2_with fail
 refine bodyPost_ret (v:=.agg #[.string ⟨#[]⟩,.string R,.string ⟨#[]⟩,.int .u8 0,.int .i64 0]) ?_ rfl ⟨rfl,?_⟩
 ·rw [results_cell1 rfl]
  go_simp
 ·exact ((Below.refl _ w).alloc (Nat.le_refl _) _).alloc (by simp) _
theorem leaves_ret {P : Program} {fn : Func} {R : Ending → World → Prop} {a : Act} {w : World} {v : Value} (hd : a.defers = []) (h : (results fn a.tmps).run P w = .ok v w) (hR : R (.returned v) w) : bodyPostD P fn R .ret a w:=by
 show Go.Leaves P fn a.tmps R a.defers .returning w
 rw [hd]; exact ⟨v,h,hR⟩
theorem below_putw {w W : World} {g i : Nat} {u : Value} (h : Below w.heap.size w W) (hB : w.heap.size ≤ g) : Below w.heap.size w (W.setCell ⟨g,i,none⟩ u):=below_put h hB h.size
theorem fin30 {w1 : World} {TB EB PB : Nat} {a0 a1 a2 a3 a4 e0 p0 : Value} (t0 t1 t2 t3 t4 ev pv : Value) (bT : w1.heap[TB]? = some (.cells #[a0,a1,a2,a3,a4] 74)) (bE : w1.heap[EB]? = some (.cells #[e0] 38)) (bP : w1.heap[PB]? = some (.cells #[p0] 3)) (n1 : TB ≠ EB) (n2 : TB ≠ PB) (n3 : EB ≠ PB) :
  let W:=((((((w1.setCell ⟨TB,0,none⟩ t0).setCell ⟨TB,1,none⟩ t1).setCell ⟨TB,2,none⟩ t2).setCell ⟨TB,3,none⟩ t3).setCell ⟨TB,4,none⟩ t4).setCell ⟨EB,0,none⟩ ev).setCell ⟨PB,0,none⟩ pv
  W.heap[TB]? = some (.cells #[t0,t1,t2,t3,t4] 74) ∧ W.heap[EB]? = some (.cells #[ev] 38) ∧ W.heap[PB]? = some (.cells #[pv] 3) ∧ Kept (fun k => k = TB ∨ k = EB ∨ k = PB) w1 W:=by
 have s4:=setBlk (i:=4) (u:=t4) (setBlk (i:=3) (u:=t3) (setBlk (i:=2) (u:=t2) (setBlk (i:=1) (u:=t1) (setBlk (i:=0) (u:=t0) bT))))
 have K1:=(((((kept_set w1 TB 0 t0).trans (kept_set _ TB 1 t1)).trans (kept_set _ TB 2 t2)).trans (kept_set _ TB 3 t3)).trans (kept_set _ TB 4 t4))
 have e4:=(K1.block EB (blk_lt bE) (fun e => n1 e.symm)).trans bE
 have p4:=(K1.block PB (blk_lt bP) (fun e => n2 e.symm)).trans bP
 generalize ((((w1.setCell ⟨TB,0,none⟩ t0).setCell ⟨TB,1,none⟩ t1).setCell ⟨TB,2,none⟩ t2).setCell ⟨TB,3,none⟩ t3).setCell ⟨TB,4,none⟩ t4 = W5 at *
 have KE:=kept_set W5 EB 0 ev
 have KP:=kept_set (W5.setCell ⟨EB,0,none⟩ ev) PB 0 pv
 have e5:=setBlk (i:=0) (u:=ev) e4
 have p5:=(KE.block PB (blk_lt p4) (fun e => n3 e.symm)).trans p4
 have t5:=(KE.block TB (blk_lt s4) (fun e => n1 e)).trans s4
 have p6:=setBlk (i:=0) (u:=pv) p5
 have e6:=(KP.block EB (blk_lt e5) (fun e => n3 e)).trans e5
 have t6:=(KP.block TB (blk_lt t5) (fun e => n2 e)).trans t5
 exact ⟨t6,e6,p6,(((Kept.refl (fun k => k = TB ∨ k = EB ∨ k = PB) w1).then K1 (fun k _ h => .inl h)).then KE (fun k _ h => .inr (.inl h))).then KP (fun k _ h => .inr (.inr h))⟩
theorem res30 {W : World} {TB EB PB : Nat} {t0 t1 t2 t3 t4 ev pv : Value} {tmps : Array Value} (bT : W.heap[TB]? = some (.cells #[t0,t1,t2,t3,t4] 74)) (bE : W.heap[EB]? = some (.cells #[ev] 38)) (bP : W.heap[PB]? = some (.cells #[pv] 3))
  (h4 : tmps[4]? = some (.pointer (some ⟨TB,0,none⟩))) (h5 : tmps[5]? = some (.pointer (some ⟨EB,0,none⟩))) (h6 : tmps[6]? = some (.pointer (some ⟨PB,0,none⟩))) :
  (results Tryz.f35 tmps).run Tryz.prog W = .ok (.tuple #[.agg #[t0,t1,t2,t3,t4],ev,pv]) W:=by
 have c0 : W.cell? ⟨TB,0,none⟩ = some t0:=cell_at bT
 have c1 : W.cell? ⟨TB,1,none⟩ = some t1:=cell_at bT
 have c2 : W.cell? ⟨TB,2,none⟩ = some t2:=cell_at bT
 have c3 : W.cell? ⟨TB,3,none⟩ = some t3:=cell_at bT
 have c4 : W.cell? ⟨TB,4,none⟩ = some t4:=cell_at bT
 have ce : W.cell? ⟨EB,0,none⟩ = some ev:=cell_at bE
 have cp : W.cell? ⟨PB,0,none⟩ = some pv:=cell_at bP
 simp [results,Tryz.results35,go_sem,h4,h5,h6,c0,c1,c2,c3,c4,ce,cp]
def W30 (w : World) (m : MM) (ty : Int) (lo : ByteArray) (cv : Value) : World :=
 ((((w.alloc (.cells #[.slice m.ta m.tn m.tc,.slice m.ha m.hn m.hc,.slice m.ga m.gn m.gc,.int .i64 m.fi,.int .i64 m.mo,.slice m.fa m.fn m.fc,.slice m.da m.dn m.dc,.slice m.ea m.en m.ec] 29)).alloc (.cells #[.int .i64 ty,.string lo,cv] 61)).alloc (.cells zT 74)).alloc (.cells #[.int .i64 0] 38)).alloc (.cells #[.int .i64 0] 3)
theorem alloc_at {w : World} {o : Obj} {b : Nat} (h : w.heap.size = b) : (w.alloc o).heap[b]? = some o:=by subst h; exact heap_alloc_new w o
theorem W30_facts (w : World) (m : MM) (ty : Int) (lo : ByteArray) (cv : Value) :
  Below w.heap.size w (W30 w m ty lo cv) ∧ (W30 w m ty lo cv).heap.size = w.heap.size + 5 ∧
  (W30 w m ty lo cv).heap[w.heap.size]? = some (.cells (mV m) 29) ∧ (W30 w m ty lo cv).heap[w.heap.size + 1]? = some (.cells #[.int .i64 ty,.string lo,cv] 61) ∧
  (W30 w m ty lo cv).heap[w.heap.size + 1 + 1]? = some (.cells zT 74) ∧ (W30 w m ty lo cv).heap[w.heap.size + 1 + 1 + 1]? = some (.cells #[.int .i64 0] 38) ∧ (W30 w m ty lo cv).heap[w.heap.size + 1 + 1 + 1 + 1]? = some (.cells #[.int .i64 0] 3):=by
 refine ⟨?_,by simp [W30],?_,?_,?_,?_,?_⟩
 ·exact (((((Below.refl _ w).alloc (Nat.le_refl _) _).alloc (by simp) _).alloc (by simp; omega) _).alloc (by simp; omega) _).alloc (by simp; omega) _
 ·exact blk_later (below_new _ _) (blk_later (below_new _ _) (blk_later (below_new _ _) (blk_later (below_new _ _) (heap_alloc_new w _))))
 ·exact blk_later (below_new _ _) (blk_later (below_new _ _) (blk_later (below_new _ _) (alloc_at (by simp))))
 ·exact blk_later (below_new _ _) (blk_later (below_new _ _) (alloc_at (by simp)))
 ·exact blk_later (below_new _ _) (alloc_at (by simp))
 ·exact alloc_at (by simp)
end
section
variable {v : Ev} {w1 w : World} {s : Cs}
theorem check30_map (m : MM) (ty : Int) (lo : ByteArray) (ca : Option Addr) (cn cc : Nat) (xs : List Inx) (hn : cn ≤ 2048) (hcap : cn ≤ cc) (hc : CodS w ca cn xs) (hE : (res (opF xs) cn 0).1 ≠ 0) :
  Calls Tryz.prog 35 #[.agg (mV m),.agg #[.int .i64 ty,.string lo,.slice ca cn cc]] w fun e w' => e = .returned (.tuple #[.agg zT,.int .i64 (res (opF xs) cn 0).1,.int .i64 (res (opF xs) cn 0).2]) ∧ Below w.heap.size w w':=by
 obtain ⟨B0,hz,b0,b1,b2,b3,b4⟩:=W30_facts w m ty lo (.slice ca cn cc)
 have HM:=hid (map_in ca cn cc xs _ (by omega) hcap (hc.later B0 (Nat.le_refl _)))
 generalize (res (opF xs) cn 0).1 = E at *
 generalize (res (opF xs) cn 0).2 = PC at *
 have HW : ((((w.alloc (.cells #[.slice m.ta m.tn m.tc,.slice m.ha m.hn m.hc,.slice m.ga m.gn m.gc,.int .i64 m.fi,.int .i64 m.mo,.slice m.fa m.fn m.fc,.slice m.da m.dn m.dc,.slice m.ea m.en m.ec] 29)).alloc (.cells #[.int .i64 ty,.string lo,.slice ca cn cc] 61)).alloc (.cells #[.slice none 0 0,.slice none 0 0,.slice none 0 0,.slice none 0 0,.int .i64 0] 74)).alloc (.cells #[.int .i64 0] 38)).alloc (.cells #[.int .i64 0] 3) = W30 w m ty lo (.slice ca cn cc):=rfl
 have f2 : (W30 w m ty lo (.slice ca cn cc)).cell? ⟨w.heap.size + 1,2,none⟩ = some (.slice ca cn cc):=cell_at b1
 clear hc
 unfold mV
 go_enter_defers Tryz.func35,Tryz.ntmps35
 go_wp2_with fail
 generalize W30 w m ty lo (.slice ca cn cc) = W0 at *
 refine HM.out.mono ?_
 rintro e w2 ⟨a1,a2,a3,n2,rfl,hmo,hb⟩
 have d2:=blk_later hb b2
 have d3:=blk_later hb b3
 have d4:=blk_later hb b4
 have e3 : w2.cell? ⟨w.heap.size + 1 + 1 + 1,0,none⟩ = some (.int .i64 0):=cell_at d3
 have g3 : w2.frozen? ⟨w.heap.size + 1 + 1 + 1,0,none⟩ = false:=free_at d3
 have e4 : w2.cell? ⟨w.heap.size + 1 + 1 + 1 + 1,0,none⟩ = some (.int .i64 0):=cell_at d4
 have g4 : w2.frozen? ⟨w.heap.size + 1 + 1 + 1 + 1,0,none⟩ = false:=free_at d4
 have HB:=hid (B0.trans (hb.mono B0.size))
 have t0 : w2.cell? ⟨w.heap.size + 1 + 1,0,none⟩ = some (.slice none 0 0):=cell_at d2
 have t1 : w2.cell? ⟨w.heap.size + 1 + 1,1,none⟩ = some (.slice none 0 0):=cell_at d2
 have t2 : w2.cell? ⟨w.heap.size + 1 + 1,2,none⟩ = some (.slice none 0 0):=cell_at d2
 have t3 : w2.cell? ⟨w.heap.size + 1 + 1,3,none⟩ = some (.slice none 0 0):=cell_at d2
 have t4 : w2.cell? ⟨w.heap.size + 1 + 1,4,none⟩ = some (.int .i64 0):=cell_at d2
 have ft : ∀ i,w2.frozen? ⟨w.heap.size + 1 + 1,i,none⟩ = false:=fun i => free_at d2
 have ft0:=ft 0
 have ft1:=ft 1
 have ft2:=ft 2
 have ft3:=ft 3
 have ft4:=ft 4
 have HD2:=hid d2
 have HD3:=hid d3
 have HD4:=hid d4
 clear hb hmo b0 b1 b2 b3 b4 B0 HM HW f2 ft d2 d3 d4
 go_wp2_with fail
 go_region
 go_wp2_with fail
 generalize hWA : (w2.setCell ⟨w.heap.size + 1 + 1 + 1,0,none⟩ (.int .i64 E)).setCell ⟨w.heap.size + 1 + 1 + 1 + 1,0,none⟩ (.int .i64 PC) = WA
 have KA : Below w.heap.size w WA:=by rw [← hWA]; exact below_putw (below_putw HB.out (by omega)) (by omega)
 have k3:=setBlk (i:=0) (u:=.int .i64 E) HD3.out
 have kk1:=kept_set w2 (w.heap.size + 1 + 1 + 1) 0 (.int .i64 E)
 have k4:=(kk1.block _ (blk_lt HD4.out) (by omega)).trans HD4.out
 have k2:=(kk1.block _ (blk_lt HD2.out) (by omega)).trans HD2.out
 have kk2:=kept_set (w2.setCell ⟨w.heap.size + 1 + 1 + 1,0,none⟩ (.int .i64 E)) (w.heap.size + 1 + 1 + 1 + 1) 0 (.int .i64 PC)
 have j4:=setBlk (i:=0) (u:=.int .i64 PC) k4
 have j3:=(kk2.block _ (blk_lt k3) (by omega)).trans k3
 have j2:=(kk2.block _ (blk_lt k2) (by omega)).trans k2
 rw [hWA] at j2 j3 j4
 obtain ⟨z2,z3,z4,zk⟩:=fin30 (.slice none 0 0) (.slice none 0 0) (.slice none 0 0) (.slice none 0 0) (.int .i64 0) (.int .i64 E) (.int .i64 PC) j2 j3 j4 (by omega) (by omega) (by omega)
 refine leaves_ret (v:=.tuple #[.agg zT,.int .i64 E,.int .i64 PC]) rfl (res30 (blk_later (below_drewN _ 1) z2) (blk_later (below_drewN _ 1) z3) (blk_later (below_drewN _ 1) z4) rfl rfl rfl) ⟨rfl,?_⟩
 exact (KA.trans ((zk.to_below KA.size (fun k hk h => by omega)))).drew
end
def cs0 (R : ByteArray) (n : Nat) : Cs:=⟨[⟨⟨#[]⟩,R,⟨#[]⟩,0,0⟩],⟨#[]⟩,0,false,List.replicate n ⟨#[]⟩,fun _ => 0,0⟩
def atPc (s : Cs) (j : Nat) : Cs:={ s with pc:=j }
def stA (m : MM) (lo : List Int) (xs : List Inx) (R : ByteArray) (n : Nat) : Nat → Cs
 | 0 => cs0 R n
 | j + 1 => rwS m lo (visS (atPc (stA m lo xs R n j) j)) (topO (stA m lo xs R n j)) (xs.getD j dx).c (xs.getD j dx).a
def erA (m : MM) (lo : List Int) (xs : List Inx) (R : ByteArray) (n j : Nat) : Int :=
 visE m lo (elF (opF xs) n (topO (stA m lo xs R n j)).pc.toNat) (atPc (stA m lo xs R n j) j) (topO (stA m lo xs R n j)) (xs.getD j dx).c (xs.getD j dx).a (xs.getD j dx).l
theorem iv_pc {O : Nat → Int} {n j : Nat} {s : Cs} (h : Iv3 O n j s) (p : Nat) : Iv3 O n j (atPc s p):=⟨h.len,h.sz,h.ch,h.last,h.st,h.hi,h.sh⟩
theorem iv_0 {O : Nat → Int} {n : Nat} {R : ByteArray} (hR : R.size ≤ 8) (hn : 0 < n) : Iv3 O n 0 (cs0 R n):=by
 refine ⟨rfl,?_,?_,?_,?_,?_,?_⟩
 ·intro p hp
  simp [cs0] at hp
  subst hp
  exact ⟨(by decide : (ByteArray.mk #[]).size ≤ 8),hR,(by decide : (ByteArray.mk #[]).size + (ByteArray.mk #[]).size ≤ 256),0,rfl,hn⟩
 ·simp [cs0]
 ·show (ByteArray.mk #[]).size ≤ (ByteArray.mk #[]).size
  exact Nat.le_refl _
 ·show (ByteArray.mk #[]).size ≤ 256
  decide
 ·show 0 ≤ 256
  omega
 ·simp [cs0]
section
variable {v : Ev} {w1 w : World} {m : MM} {lo : List Int} {xs : List Inx} {R : ByteArray} {n j : Nat}
theorem erA_zero (h : erA m lo xs R n j = 0) : rwE m lo (elF (opF xs) n (topO (stA m lo xs R n j)).pc.toNat) (visS (atPc (stA m lo xs R n j) j)) (topO (stA m lo xs R n j)) (xs.getD j dx).c (xs.getD j dx).a (xs.getD j dx).l = 0:=by
 unfold erA visE at h
 split at h
 ·cases h
 ·exact h
theorem iv_next (hM : EvM v w1 m lo) (hG : Good (opF xs) n) (h0 : 0 ≤ (xs.getD j dx).c) (h1 : (xs.getD j dx).c ≤ 255) (hj : j + 1 < n) (h : Iv3 (opF xs) n j (stA m lo xs R n j)) (he : erA m lo xs R n j = 0) : Iv3 (opF xs) n (j + 1) (stA m lo xs R n (j + 1)) :=
 iv_row (el:=elF (opF xs) n (topO (stA m lo xs R n j)).pc.toNat) (l:=(xs.getD j dx).l) hM (iv_vis (iv_pc h j)) rfl h0 h1 rfl (by omega) ((hG.2.1 j (by omega)).2) (erA_zero he)
theorem visA (hA : EvA v w1) (hM : EvM v w1 m lo) (hn : v.n = n) (hnn : n ≤ 1000000) (hG : Good (opF xs) n) (hj : j < n) (hI : Iv3 (opF xs) n j (stA m lo xs R n j)) (h : CI v w1 w (atPc (stA m lo xs R n j) j))
  (h0 : 0 ≤ (xs.getD j dx).c) (h1 : (xs.getD j dx).c ≤ 255) (hl : (xs.getD j dx).c = 9 → SegJ w1 (xs.getD j dx).la (xs.getD j dx).ln (xs.getD j dx).lc (xs.getD j dx).l ∧ 0 < (xs.getD j dx).ln)
  (hS : ∀ b off,(xs.getD j dx).la = some ⟨b,off,none⟩ → (xs.getD j dx).ln ≠ 0 → ¬ v.S b) (hE : RI w1 v.EL n (elF (opF xs) n)) (hES : ¬ v.S v.EL) :
  Calls Tryz.prog 63 #[.pointer (some ⟨v.C,0,none⟩),.agg #[.int .u8 (xs.getD j dx).c,.int .i64 (xs.getD j dx).a,.slice (xs.getD j dx).la (xs.getD j dx).ln (xs.getD j dx).lc]] w (Rowz v w1 j (erA m lo xs R n j) (stA m lo xs R n (j + 1))):=by
 by_cases hd : (atPc (stA m lo xs R n j) j).dead = true ∧ (xs.getD j dx).c ≠ 5 ∧ (xs.getD j dx).c ≠ 6
 ·have e : erA m lo xs R n j = 36:=if_pos hd
  rw [e]
  exact visit73_dead hA h _ hd.1 hd.2.1 hd.2.2 _
 ·have e : erA m lo xs R n j = rwE m lo (elF (opF xs) n (topO (stA m lo xs R n j)).pc.toNat) (visS (atPc (stA m lo xs R n j) j)) (topO (stA m lo xs R n j)) (xs.getD j dx).c (xs.getD j dx).a (xs.getD j dx).l:=if_neg hd
  rw [e]
  have hok : Okp (opF xs) j:=fun i hi => hG.2.1 i (by omega)
  have hk : Wk v (atPc (stA m lo xs R n j) j) (stk (opF xs) j).length (topO (stA m lo xs R n j)):=(iv_pc hI j).wk hn hnn rfl hj (stk_len hok)
  have hq : (topO (stA m lo xs R n j)).pc.toNat < n:=by
   obtain ⟨q,hq,hqn⟩:=hk.op
   rw [hq]; simp; omega
  refine visit73 hA hM h hk h0 h1 ?_ ?_ hl hS (hE.cell _ hq) hES ?_
  ·have:=hI.hi; exact Nat.le_trans this (by omega)
  ·rw [hn]; exact hI.sh
  ·by_cases h2 : (atPc (stA m lo xs R n j) j).dead = true
   ·by_cases h5 : (xs.getD j dx).c = 5
    ·exact .inr (.inl h5)
    ·by_cases h6 : (xs.getD j dx).c = 6
     ·exact .inr (.inr h6)
     ·exact absurd ⟨h2,h5,h6⟩ hd
   ·exact .inl (by simpa using h2)
end
structure EvW (w : World) (m : MM) : Prop where
 pt : AtSig w m.ta m.tn m.types
 tf : ∀ b off c,m.ta = some ⟨b,off,c⟩ → b < w.heap.size
 t64 : m.tn ≤ 64
 ph : AtNu w m.ha m.hn m.hosts
 hf : ∀ b off c,m.ha = some ⟨b,off,c⟩ → b < w.heap.size
 h32 : m.hn ≤ 32
 pg : AtGl w m.ga m.gn m.globals
 gf : ∀ b off c,m.ga = some ⟨b,off,c⟩ → b < w.heap.size
 g64 : m.gn ≤ 64
 pf : AtFu w m.fa m.fn m.fns
 ff : ∀ b off c,m.fa = some ⟨b,off,c⟩ → b < w.heap.size
 f128 : m.fn ≤ 128
 gL : ∀ x ∈ m.globals,x.1 = 119 ∨ x.1 = 108
 tL : ∀ x ∈ m.types,x.1.size ≤ 8 ∧ x.2.size ≤ 8
 hT : ∀ x ∈ m.hosts,0 ≤ x ∧ x < m.tn
 fT : ∀ x ∈ m.fns,0 ≤ x.1 ∧ x.1 < m.tn
 kinds : KindsOk w
 pos : 0 < w.heap.size
theorem EvW.evm {w w1 : World} {m : MM} {v : Ev} {lo : List Int} (h : EvW w m) (hb : Below w.heap.size w w1) (hS : ∀ k,v.S k → w.heap.size ≤ k) (hmv : v.mv = mV m) {L lc : Nat} (hlv : v.lv = .slice (some ⟨L,0,none⟩) lo.length lc) (hL : w.heap.size ≤ L) (hLS : lo.length = 0 ∨ ¬ v.S L) (h64 : lo.length ≤ 64)
  (hsl : ∀ (j : Nat) x,lo[j]? = some x → w1.cell? ⟨L,j,none⟩ = some (.int .u8 x)) (hlL : ∀ x ∈ lo,x = 119 ∨ x = 108) : EvM v w1 m lo:=by
 have hk : Kept (fun _ => False) w w1:=kept_of hb
 exact ⟨hmv,h.pt.kept hk (fun _ _ _ _ => id),fun b off c e hs => by have:=h.tf b off c e; have:=hS b hs; omega,h.t64,
  h.ph.kept hk (fun _ _ _ _ => id),fun b off c e hs => by have:=h.hf b off c e; have:=hS b hs; omega,h.h32,
  h.pg.kept hk (fun _ _ _ _ => id),fun b off c e hs => by have:=h.gf b off c e; have:=hS b hs; omega,h.g64,
  h.pf.kept hk (fun _ _ _ _ => id),fun b off c e hs => by have:=h.ff b off c e; have:=hS b hs; omega,h.f128,
  ⟨_,_,_,hlv,rfl,h64,hLS.imp id fun hLS => ⟨L,0,rfl,hLS,fun j x hj => by rw [Nat.zero_add]; exact hsl j x hj⟩⟩,hlL,h.gL,h.tL,h.hT,h.fT,h.kinds.later hb h.pos,fun k hk' => by have:=hS k hk'; have:=h.pos; omega⟩
theorem ri_block {w : World} {B n : Nat} (h : w.heap[B]? = some (.cells (madeCells #[Value.int .i64 0] n) 3)) (hn : n ≤ 1048576) : RI w B n (fun _ => 0):=by
 have e : (madeCells #[Value.int .i64 0] n).toList = fl n (fun _ => 0):=by
  refine (toList_madeCells_one _ _).trans ?_
  apply List.ext_getElem?
  intro j
  by_cases hj : j < n
  ·rw [fl_get n _ j hj]; simp [hj]
  ·rw [List.getElem?_eq_none (by simp; omega),List.getElem?_eq_none (by rw [fl_len]; omega)]
 refine ⟨(fl_len _ _).trans (by omega),.inr ⟨B,n,madeCells #[Value.int .i64 0] n,rfl,Nat.zero_le _,h,Nat.le_refl _,by unfold maxLen; omega,(size_madeCells _ _).trans (by omega),?_⟩⟩
 rw [Nat.mul_one,e,List.take_of_length_le (by rw [fl_len]; exact Nat.le_refl _)]
theorem rs_block {w : World} {B n : Nat} (h : w.heap[B]? = some (.cells (madeCells #[Value.string ⟨#[]⟩] n) 9)) (hn : n ≤ 1048576) : Row w 9 B n n ((List.replicate n (⟨#[]⟩ : ByteArray)).map Value.string):=by
 have e : (madeCells #[Value.string ⟨#[]⟩] n).toList = (List.replicate n (⟨#[]⟩ : ByteArray)).map Value.string:=by
  refine (toList_madeCells_one _ _).trans ?_
  simp
 refine ⟨by simp,.inr ⟨B,n,madeCells #[Value.string ⟨#[]⟩] n,rfl,Nat.zero_le _,h,Nat.le_refl _,by unfold maxLen; omega,(size_madeCells _ _).trans (by omega),?_⟩⟩
 rw [Nat.mul_one,e,List.take_of_length_le (by simp)]
theorem ci_0 {w : World} {C SH FL O0 EN EL L lc n ln : Nat} {m : MM} {R : ByteArray}
  (hC : w.heap[C]? = some (.cells #[.slice m.ta m.tn m.tc,.slice m.ha m.hn m.hc,.slice m.ga m.gn m.gc,.int .i64 m.fi,.int .i64 m.mo,.slice m.fa m.fn m.fc,.slice m.da m.dn m.dc,.slice m.ea m.en m.ec,.slice (some ⟨L,0,none⟩) ln lc,.slice (some ⟨SH,0,none⟩) n n,.slice (some ⟨EN,0,none⟩) n n,.slice (some ⟨EL,0,none⟩) n n,.slice (some ⟨FL,0,none⟩) n n,.int .i64 0,.slice (some ⟨O0,0,none⟩) 1 1,.string ⟨#[]⟩,.int .i64 0,.bool false] 120))
  (hO : w.heap[O0]? = some (.cells #[.string ⟨#[]⟩,.string R,.string ⟨#[]⟩,.int .u8 0,.int .i64 0] 116)) (hSH : w.heap[SH]? = some (.cells (madeCells #[Value.string ⟨#[]⟩] n) 9)) (hFL : w.heap[FL]? = some (.cells (madeCells #[Value.int .i64 0] n) 3)) (hn : n ≤ 1048576) :
  CI ⟨C,SH,FL,O0,EN,EL,n,mV m,.slice (some ⟨L,0,none⟩) ln lc⟩ w w (cs0 R n):=by
 refine ⟨Kept.refl _ _,⟨O0,1,hC,⟨rfl,.inr ⟨O0,1,_,rfl,Nat.zero_le _,hO,Nat.le_refl _,by unfold maxLen; omega,rfl,rfl⟩⟩,.inl rfl⟩,rs_block hSH hn,ri_block hFL hn⟩
theorem seg_nb {W : World} {b n c g : Nat} {l : List Int} {x : Value} (h : Seg W (some ⟨b,0,none⟩) n c l) (h2 : W.cell? ⟨g,0,none⟩ = some x) (hx : ∀ z,x ≠ .int .u8 z) : n = 0 ∨ b ≠ g:=by
 obtain ⟨h1,h2',h3,h4,h5⟩:=h
 rcases h5 with h5 | ⟨b',off,e,hc⟩
 ·exact .inl h5
 ·cases e
  by_cases h0 : n = 0
  ·exact .inl h0
  ·right
   rintro rfl
   have:=hc 0 (by omega)
   rw [Nat.add_zero,h2] at this
   exact hx _ (Option.some.inj this)
theorem seg_get {W : World} {b n c : Nat} {l : List Int} (h : Seg W (some ⟨b,0,none⟩) n c l) (j : Nat) (x : Int) (hj : l[j]? = some x) : W.cell? ⟨b,j,none⟩ = some (.int .u8 x):=by
 obtain ⟨h1,h2',h3,h4,h5⟩:=h
 have hl:=lt_of_get hj
 rcases h5 with h5 | ⟨b',off,e,hc⟩
 ·omega
 ·cases e
  have:=hc j (by omega)
  rw [Nat.zero_add,getD_of hj] at this
  exact this
theorem seg_lt {W : World} {b n c : Nat} {l : List Int} (h : Seg W (some ⟨b,0,none⟩) n c l) : n = 0 ∨ b < W.heap.size:=by
 obtain ⟨h1,h2',h3,h4,h5⟩:=h
 rcases h5 with h5 | ⟨b',off,e,hc⟩
 ·exact .inl h5
 ·cases e
  by_cases h0 : n = 0
  ·exact .inl h0
  ·exact .inr (block_lt_of_cell (hc 0 (by omega)))
def Out30 (m : MM) (lo : List Int) (xs : List Inx) (R : ByteArray) (n : Nat) (w : World) (e : Ending) (w' : World) : Prop :=
 Below w.heap.size w w' ∧
 ((∃ j,j < n ∧ (∀ i,i < j → erA m lo xs R n i = 0) ∧ erA m lo xs R n j ≠ 0 ∧ e = .returned (.tuple #[.agg zT,.int .i64 (erA m lo xs R n j),.int .i64 j])) ∨
  ((∀ i,i < n → erA m lo xs R n i = 0) ∧ ∃ SH EN EL FL,w.heap.size ≤ SH ∧ w.heap.size ≤ EN ∧ w.heap.size ≤ EL ∧ w.heap.size ≤ FL ∧ SH ≠ FL ∧ EN ≠ EL ∧ EN ≠ FL ∧ EL ≠ FL ∧
  e = .returned (.tuple #[.agg #[.slice (some ⟨SH,0,none⟩) n n,.slice (some ⟨EN,0,none⟩) n n,.slice (some ⟨EL,0,none⟩) n n,.slice (some ⟨FL,0,none⟩) n n,.int .i64 (stA m lo xs R n n).hi],.int .i64 0,.int .i64 0]) ∧
  Row w' 9 SH n n ((stA m lo xs R n n).sh.map Value.string) ∧ RI w' EN n (enF (opF xs) n) ∧ RI w' EL n (elF (opF xs) n) ∧ RI w' FL n (stA m lo xs R n n).fl))
end Go.Proofs.YtepcmfegggdjfaaGreatDoor
