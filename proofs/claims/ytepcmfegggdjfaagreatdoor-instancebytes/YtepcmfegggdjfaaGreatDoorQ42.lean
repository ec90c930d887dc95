/-
  Texts Ig.
-/
import Derived.Deep.RegionHeld
import Derived.OrdersHeld
import Derived.Test.YtepcmfegggdjfaaGreatDoorQ00
import Derived.Test.YtepcmfegggdjfaaGreatDoorQ40
import Derived.Test.YtepcmfegggdjfaaGreatDoorQ41
set_option linter.unusedVariables false
set_option maxRecDepth 100000
set_option maxHeartbeats 16000000
namespace Go.Proofs.YtepcmfegggdjfaaGreatDoor
open Go.RowKit
abbrev zSt : Obj:=.cells #[.slice none 0 0,.slice none 0 0,.slice none 0 0,.int .i64 0,.int .i8 0,.slice none 0 0,.int .i8 0,.int .i64 0] 37
abbrev zSv : Value:=.agg #[.slice none 0 0,.slice none 0 0,.slice none 0 0,.int .i64 0,.int .i8 0,.slice none 0 0,.int .i8 0,.int .i64 0]
theorem fin8 {w1 : World} {TB : Nat} {a0 a1 a2 a3 a4 a5 a6 a7 : Value} (t0 t1 t2 t3 t4 t5 t6 t7 : Value) (bT : w1.heap[TB]? = some (.cells #[a0,a1,a2,a3,a4,a5,a6,a7] 37)) :
  let W:=(((((((w1.setCell ⟨TB,0,none⟩ t0).setCell ⟨TB,1,none⟩ t1).setCell ⟨TB,2,none⟩ t2).setCell ⟨TB,3,none⟩ t3).setCell ⟨TB,4,none⟩ t4).setCell ⟨TB,5,none⟩ t5).setCell ⟨TB,6,none⟩ t6).setCell ⟨TB,7,none⟩ t7
  W.heap[TB]? = some (.cells #[t0,t1,t2,t3,t4,t5,t6,t7] 37) ∧ Kept (fun k => k = TB) w1 W:=by
 have s0 : (w1.setCell ⟨TB,0,none⟩ t0).heap[TB]? = some (.cells #[t0,a1,a2,a3,a4,a5,a6,a7] 37):=setBlk (i:=0) (u:=t0) bT
 have s1 : ((w1.setCell ⟨TB,0,none⟩ t0).setCell ⟨TB,1,none⟩ t1).heap[TB]? = some (.cells #[t0,t1,a2,a3,a4,a5,a6,a7] 37):=setBlk (i:=1) (u:=t1) s0
 have s2 : (((w1.setCell ⟨TB,0,none⟩ t0).setCell ⟨TB,1,none⟩ t1).setCell ⟨TB,2,none⟩ t2).heap[TB]? = some (.cells #[t0,t1,t2,a3,a4,a5,a6,a7] 37):=setBlk (i:=2) (u:=t2) s1
 have s3 : ((((w1.setCell ⟨TB,0,none⟩ t0).setCell ⟨TB,1,none⟩ t1).setCell ⟨TB,2,none⟩ t2).setCell ⟨TB,3,none⟩ t3).heap[TB]? = some (.cells #[t0,t1,t2,t3,a4,a5,a6,a7] 37):=setBlk (i:=3) (u:=t3) s2
 have s4 : (((((w1.setCell ⟨TB,0,none⟩ t0).setCell ⟨TB,1,none⟩ t1).setCell ⟨TB,2,none⟩ t2).setCell ⟨TB,3,none⟩ t3).setCell ⟨TB,4,none⟩ t4).heap[TB]? = some (.cells #[t0,t1,t2,t3,t4,a5,a6,a7] 37):=setBlk (i:=4) (u:=t4) s3
 have s5 : ((((((w1.setCell ⟨TB,0,none⟩ t0).setCell ⟨TB,1,none⟩ t1).setCell ⟨TB,2,none⟩ t2).setCell ⟨TB,3,none⟩ t3).setCell ⟨TB,4,none⟩ t4).setCell ⟨TB,5,none⟩ t5).heap[TB]? = some (.cells #[t0,t1,t2,t3,t4,t5,a6,a7] 37):=setBlk (i:=5) (u:=t5) s4
 have s6 : (((((((w1.setCell ⟨TB,0,none⟩ t0).setCell ⟨TB,1,none⟩ t1).setCell ⟨TB,2,none⟩ t2).setCell ⟨TB,3,none⟩ t3).setCell ⟨TB,4,none⟩ t4).setCell ⟨TB,5,none⟩ t5).setCell ⟨TB,6,none⟩ t6).heap[TB]? = some (.cells #[t0,t1,t2,t3,t4,t5,t6,a7] 37):=setBlk (i:=6) (u:=t6) s5
 have s7 : ((((((((w1.setCell ⟨TB,0,none⟩ t0).setCell ⟨TB,1,none⟩ t1).setCell ⟨TB,2,none⟩ t2).setCell ⟨TB,3,none⟩ t3).setCell ⟨TB,4,none⟩ t4).setCell ⟨TB,5,none⟩ t5).setCell ⟨TB,6,none⟩ t6).setCell ⟨TB,7,none⟩ t7).heap[TB]? = some (.cells #[t0,t1,t2,t3,t4,t5,t6,t7] 37):=setBlk (i:=7) (u:=t7) s6
 exact ⟨s7,(((((((kept_set w1 TB 0 t0).trans (kept_set _ TB 1 t1)).trans (kept_set _ TB 2 t2)).trans (kept_set _ TB 3 t3)).trans (kept_set _ TB 4 t4)).trans (kept_set _ TB 5 t5)).trans (kept_set _ TB 6 t6)).trans (kept_set _ TB 7 t7)⟩
theorem res7 {W : World} {TB : Nat} {t0 t1 t2 t3 t4 t5 t6 t7 ev : Value} {tmps : Array Value} (bT : W.heap[TB]? = some (.cells #[t0,t1,t2,t3,t4,t5,t6,t7] 37)) (h6 : tmps[6]? = some (.pointer (some ⟨TB,0,none⟩))) (h7 : tmps[7]? = some ev) :
  (results Tryz.f7 tmps).run Tryz.prog W = .ok (.tuple #[.agg #[t0,t1,t2,t3,t4,t5,t6,t7],ev]) W:=by
 have c0 : W.cell? ⟨TB,0,none⟩ = some t0:=cell_at bT
 have c1 : W.cell? ⟨TB,1,none⟩ = some t1:=cell_at bT
 have c2 : W.cell? ⟨TB,2,none⟩ = some t2:=cell_at bT
 have c3 : W.cell? ⟨TB,3,none⟩ = some t3:=cell_at bT
 have c4 : W.cell? ⟨TB,4,none⟩ = some t4:=cell_at bT
 have c5 : W.cell? ⟨TB,5,none⟩ = some t5:=cell_at bT
 have c6 : W.cell? ⟨TB,6,none⟩ = some t6:=cell_at bT
 have c7 : W.cell? ⟨TB,7,none⟩ = some t7:=cell_at bT
 simp [results,Tryz.results7,go_sem,h6,h7,c0,c1,c2,c3,c4,c5,c6,c7]
theorem tkFh {P : Program} {ops : Array Oper} {Q : Exit → Act → World → Prop} {md : Region.Mode} {S : World → Prop} {i : Nat} {oi : Oper} {v : Value} {fuel : Nat} {listed : Array Bool} {a : Act} {w : World} (hi : ops[i]? = some oi) (h : wpAnyH P md ops Q S fuel (listed.setIfInBounds i true) (a.put oi.dst v) w) (hv : ∀ w,S w → (execOp a.eval oi).run P w = .ok (.value v) w:=by (intro w h; (try dsimp only at h); go_simp; try with_reducible rfl))
  (hc : (Region.noSelect ops && Region.free md ops listed i && (Region.ready md ops listed).contains i) = true:=by kernel_rfl) (hw : Region.wanted oi (yielded ops a.tmps) = true:=by rfl) (hQ : ∀ c a w,Q (.panic c) (a.put oi.dst v) w → Q (.panic c) a w:=by exact fun _ _ _ h => h) (hS : S w:=by assumption) : wpAnyH P md ops Q S (fuel + 1) listed a w:=by
 simp only [Bool.and_eq_true] at hc
 exact wpAnyH_take hi hc.1.1 hc.1.2 hc.2 hQ (Or.inl ⟨hw,hv⟩) hS h
theorem rdFc {P : Program} {ops : Array Oper} {Q : Exit → Act → World → Prop} {md : Region.Mode} {S : World → Prop} {i : Nat} {o : Oper} {fuel : Nat} {listed : Array Bool} {a : Act} {w : World} {rs : List Nat} (ho : ops[i]? = some o) (h : ∀ K : Act → World → Prop,Shut (∀ a w,S w → (S w → wpAnyH P md ops Q S fuel (listed.setIfInBounds i true) a w) → K a w) → Oper.wp P o a w K Q) (hs : AllReadyH P md ops Q S fuel listed a w rs) (hw : Region.wanted o (yielded ops a.tmps) = true:=by rfl) : AllReadyH P md ops Q S fuel listed a w (i :: rs):=AllReadyH.cons ho (fun K hK => by rw [if_pos hw]; exact h K hK) hs
theorem rdFy {P : Program} {ops : Array Oper} {Q : Exit → Act → World → Prop} {md : Region.Mode} {S : World → Prop} {rs : List Nat} {fuel : Nat} {listed : Array Bool} {a : Act} {w : World} (h : AllReadyH P md ops Q S fuel listed a w rs) (hr : Region.ready md ops listed = rs:=by kernel_rfl) (hne : rs ≠ []:=by simp) : wpAnyH P md ops Q S (fuel + 1) listed a w:=wpAnyH_ready hr hne h
def FndX (m : MM) (s : ByteArray) (j : Nat) (x : Ex) : Prop:=m.exps[j]? = some x ∧ x.1 = s ∧ ∀ (i : Nat) y,i < j → m.exps[i]? = some y → y.1 ≠ s
def FunX (m : MM) (s : ByteArray) (k : Nat) (y : FuM) (P : ByteArray) : Prop:=∃ j x Q,FndX m s j x ∧ x.2 = (k : Int) ∧ m.fns[k]? = some y ∧ m.types[y.1.toNat]? = some (P,Q)
def BegE (m : MM) (s : ByteArray) (zs : List Int) (E : Int) : Prop:=BadM m ∨ (E = 41 ∧ ∀ (i : Nat) x,m.exps[i]? = some x → x.1 ≠ s) ∨ ∃ k y P,FunX m s k y P ∧ allB zs P = false
def begV (FB GB LB n gn : Nat) : Array Value:=#[.slice (some ⟨FB,0,none⟩) 1 1,.slice (some ⟨GB,0,none⟩) gn gn,.slice (some ⟨LB,0,none⟩) n n,.int .i64 0,.int .i8 1,.slice none 0 0,.int .i8 0,.int .i64 0]
structure Beg (m : MM) (s : ByteArray) (zs : List Int) (base : Nat) (w : World) (FB GB LB R LO n : Nat) : Prop where
 chk : chkMM m = 0
 fi : m.fi = (n : Int)
 fn : ∃ k y P,FunX m s k y P ∧ allB zs P = true ∧ w.heap[FB]? = some (.cells #[.int .i64 k,.int .i64 0,.slice (some ⟨LO,0,none⟩) (P.size + y.2.1.size) (P.size + y.2.1.size),.slice none 0 0] 47) ∧ RB .u64 53 w LO (P.size + y.2.1.size) (locF zs)
 gl : RB .u64 53 w GB m.gn (glF m.globals)
 pg : w.heap[LB]? = some (.cells (pgL R n).toArray 49)
 by_ : RB .u8 5 w R (n * 4096) (layA m.data)
 l0 : base ≤ FB
 l1 : base ≤ GB
 l2 : base ≤ LB
 l3 : base ≤ R
 l4 : base ≤ LO
def OutBg (m : MM) (s : ByteArray) (zs : List Int) (w : World) (e : Ending) (w' : World) : Prop :=
 Below w.heap.size w w' ∧
 ((∃ E,E ≠ 0 ∧ BegE m s zs E ∧ e = .returned (.tuple #[zSv,.int .i64 E])) ∨
  ∃ FB GB LB R LO n,Beg m s zs w.heap.size w' FB GB LB R LO n ∧ e = .returned (.tuple #[.agg (begV FB GB LB n m.gn),.int .i64 0]))
theorem chkEx_idx {nf : Int} {ah : List Ex} {x : Ex} (h : chkEx nf ah x = 0) : 0 ≤ x.2 ∧ x.2 < nf:=by
 unfold chkEx at h
 by_cases a1 : 32 < x.1.size
 ·rw [if_pos a1] at h; cases h
 rw [if_neg a1] at h
 by_cases a2 : isNm x.1 = false
 ·rw [if_pos a2] at h; cases h
 rw [if_neg a2] at h
 by_cases a3 : badOrd ah x.1 = true
 ·rw [if_pos a3] at h; cases h
 rw [if_neg a3] at h
 unfold chkIdx at h
 by_cases a4 : x.2 < 0 ∨ nf ≤ x.2
 ·rw [if_pos a4] at h; cases h
 omega
theorem lett_cat {s : ByteArray} (h : ∀ z ∈ strBytes s,z = 119 ∨ z = 108) : lett s s.size = true:=by
 rw [lett_mem]
 refine ⟨fun c hc => ?_,Nat.le_refl _⟩
 have:=h (c.toNat : Int) (by unfold strBytes; exact List.mem_map.2 ⟨c,hc,rfl⟩)
 rcases this with h | h
 ·left; apply UInt8.toNat_inj.1; show c.toNat = 119; omega
 ·right; apply UInt8.toNat_inj.1; show c.toNat = 108; omega
theorem beg_out {m : MM} {s : ByteArray} {zs : List Int} {w w4 wn W' : World} {k N FB GB LB R LO z2 : Nat} {y : FuM} {P : ByteArray} (hB4 : Below w.heap.size w w4) (hBn : Below w4.heap.size w4 wn) (h1 : chkMM m = 0) (hfi : m.fi = (N : Int)) (hall : allB zs P = true) (hX : FunX m s k y P)
  (F0 : wn.heap[FB]? = some (.cells #[.int .i64 k,.int .i64 0,.slice (some ⟨LO,0,none⟩) (P.size + y.2.1.size) (P.size + y.2.1.size),.slice none 0 0] 47)) (F1 : w4.heap.size ≤ FB) (L0 : RB .u64 53 wn LO (P.size + y.2.1.size) (locF zs)) (L1 : w4.heap.size ≤ LO) (G0 : RB .u64 53 wn GB m.gn (glF m.globals)) (G1 : w4.heap.size ≤ GB)
  (P0 : wn.heap[LB]? = some (.cells (pgL R N).toArray 49) ∧ RB .u8 5 wn R (N * 4096) (layA m.data)) (P1 : w4.heap.size ≤ LB ∧ w4.heap.size ≤ R) (zk : Kept (fun k => k = w.heap.size + 1) wn W') (hs2 : w.heap.size + 1 + 1 ≤ z2) (h24 : z2 ≤ w4.heap.size) :
  OutBg m s zs w (.returned (.tuple #[.agg (begV FB GB LB N m.gn),.int .i64 0])) W':=by
 have hb : Below w.heap.size w wn:=hB4.trans (hBn.mono hB4.size)
 have hz:=hB4.size
 have ne : ∀ q,w4.heap.size ≤ q → ¬ q = w.heap.size + 1:=fun q hq => by omega
 refine ⟨hb.trans (zk.to_below hb.size (fun q hq e => by have e : q = w.heap.size + 1:=e; omega)),.inr ⟨FB,GB,LB,R,LO,N,⟨h1,hfi,⟨k,y,P,hX,hall,(zk.block _ (blk_ltI F0) (ne _ F1)).trans F0,L0.kept zk (ne _ L1)⟩,G0.kept zk (ne _ G1),(zk.block _ (blk_ltI P0.1) (ne _ P1.1)).trans P0.1,P0.2.kept zk (ne _ P1.2),by omega,by omega,by omega,by omega,by omega⟩,rfl⟩⟩
theorem beg7 (m : MM) (s : ByteArray) (a : Option Addr) (n cap : Nat) (zs : List Int) (w : World) (hk : KindsOk w) (hp : 0 < w.heap.size) (hm : ∀ R g,w.heap.size ≤ R → w.heap.size ≤ g → MOk w R g m) (hcap : ∀ x ∈ m.fns,x.2.2.1.2.1 ≤ x.2.2.1.2.2) (hz : SegW w a n cap zs) :
  Calls Tryz.prog 7 #[.agg (mV m),.string s,.slice a n cap] w (OutBg m s zs w):=by
 have B1:=below_new w (.cells (mV m) 29)
 have B2:=below_new (w.alloc (.cells (mV m) 29)) zSt
 have B0 : Below w.heap.size w ((w.alloc (.cells (mV m) 29)).alloc zSt):=B1.trans (B2.mono B1.size)
 have b0:=blk_later B2 (heap_alloc_new w (.cells (mV m) 29))
 have b1:=heap_alloc_new (w.alloc (.cells (mV m) 29)) zSt
 have hz1 : (w.alloc (.cells (mV m) 29)).heap.size = w.heap.size + 1:=by simp
 have hz2 : ((w.alloc (.cells (mV m) 29)).alloc zSt).heap.size = w.heap.size + 1 + 1:=by simp
 rw [hz1] at b1
 have HE:=hid (fnd14 m s ((w.alloc (.cells (mV m) 29)).alloc zSt) (hk.later B0 hp) (by omega) (fun R g h1 h2 => (hm R g (by omega) (by omega)).later B0) hcap)
 have HM:=hid (hm w.heap.size w.heap.size (Nat.le_refl _) (Nat.le_refl _))
 have HS:=hid hz
 have HBK:=hid (And.intro B0 (And.intro b0 b1))
 clear hm hk hcap B0 B1 B2 b0 b1 hz1 hz
 have HZ2:=hid hz2
 clear hz2
 show Calls Tryz.prog 7 #[.agg #[.slice m.ta m.tn m.tc,.slice m.ha m.hn m.hc,.slice m.ga m.gn m.gc,.int .i64 m.fi,.int .i64 m.mo,.slice m.fa m.fn m.fc,.slice m.da m.dn m.dc,.slice m.ea m.en m.ec],.string s,.slice a n cap] w _
 unfold mV at HE HBK HZ2
 have c0 : ((w.alloc (.cells #[.slice m.ta m.tn m.tc,.slice m.ha m.hn m.hc,.slice m.ga m.gn m.gc,.int .i64 m.fi,.int .i64 m.mo,.slice m.fa m.fn m.fc,.slice m.da m.dn m.dc,.slice m.ea m.en m.ec] 29)).alloc zSt).cell? ⟨w.heap.size,0,none⟩ = some (.slice m.ta m.tn m.tc):=cell_at HBK.out.2.1
 have c1 : ((w.alloc (.cells #[.slice m.ta m.tn m.tc,.slice m.ha m.hn m.hc,.slice m.ga m.gn m.gc,.int .i64 m.fi,.int .i64 m.mo,.slice m.fa m.fn m.fc,.slice m.da m.dn m.dc,.slice m.ea m.en m.ec] 29)).alloc zSt).cell? ⟨w.heap.size,1,none⟩ = some (.slice m.ha m.hn m.hc):=cell_at HBK.out.2.1
 have c2 : ((w.alloc (.cells #[.slice m.ta m.tn m.tc,.slice m.ha m.hn m.hc,.slice m.ga m.gn m.gc,.int .i64 m.fi,.int .i64 m.mo,.slice m.fa m.fn m.fc,.slice m.da m.dn m.dc,.slice m.ea m.en m.ec] 29)).alloc zSt).cell? ⟨w.heap.size,2,none⟩ = some (.slice m.ga m.gn m.gc):=cell_at HBK.out.2.1
 have c3 : ((w.alloc (.cells #[.slice m.ta m.tn m.tc,.slice m.ha m.hn m.hc,.slice m.ga m.gn m.gc,.int .i64 m.fi,.int .i64 m.mo,.slice m.fa m.fn m.fc,.slice m.da m.dn m.dc,.slice m.ea m.en m.ec] 29)).alloc zSt).cell? ⟨w.heap.size,3,none⟩ = some (.int .i64 m.fi):=cell_at HBK.out.2.1
 have c4 : ((w.alloc (.cells #[.slice m.ta m.tn m.tc,.slice m.ha m.hn m.hc,.slice m.ga m.gn m.gc,.int .i64 m.fi,.int .i64 m.mo,.slice m.fa m.fn m.fc,.slice m.da m.dn m.dc,.slice m.ea m.en m.ec] 29)).alloc zSt).cell? ⟨w.heap.size,4,none⟩ = some (.int .i64 m.mo):=cell_at HBK.out.2.1
 have c5 : ((w.alloc (.cells #[.slice m.ta m.tn m.tc,.slice m.ha m.hn m.hc,.slice m.ga m.gn m.gc,.int .i64 m.fi,.int .i64 m.mo,.slice m.fa m.fn m.fc,.slice m.da m.dn m.dc,.slice m.ea m.en m.ec] 29)).alloc zSt).cell? ⟨w.heap.size,5,none⟩ = some (.slice m.fa m.fn m.fc):=cell_at HBK.out.2.1
 have c6 : ((w.alloc (.cells #[.slice m.ta m.tn m.tc,.slice m.ha m.hn m.hc,.slice m.ga m.gn m.gc,.int .i64 m.fi,.int .i64 m.mo,.slice m.fa m.fn m.fc,.slice m.da m.dn m.dc,.slice m.ea m.en m.ec] 29)).alloc zSt).cell? ⟨w.heap.size,6,none⟩ = some (.slice m.da m.dn m.dc):=cell_at HBK.out.2.1
 have c7 : ((w.alloc (.cells #[.slice m.ta m.tn m.tc,.slice m.ha m.hn m.hc,.slice m.ga m.gn m.gc,.int .i64 m.fi,.int .i64 m.mo,.slice m.fa m.fn m.fc,.slice m.da m.dn m.dc,.slice m.ea m.en m.ec] 29)).alloc zSt).cell? ⟨w.heap.size,7,none⟩ = some (.slice m.ea m.en m.ec):=cell_at HBK.out.2.1
 go_enter Tryz.func7,Tryz.ntmps7
 go_wp2_with fail
 refine HE.out.mono ?_
 rintro e w2 hO
 have hb2:=hO.1
 have HB2 : Hid (Below w.heap.size w w2):=hid (HBK.out.1.trans (hb2.mono HBK.out.1.size))
 have t1:=blk_later hb2 HBK.out.2.2
 have t0:=blk_later hb2 HBK.out.2.1
 have HT:=hid (And.intro t0 t1)
 have hs2 : w.heap.size + 1 + 1 ≤ w2.heap.size:=by have:=hb2.size; rw [HZ2.out] at this; exact this
 have a0 : w2.cell? ⟨w.heap.size + 1,0,none⟩ = some (.slice none 0 0):=cell_at t1
 have f0 : w2.frozen? ⟨w.heap.size + 1,0,none⟩ = false:=free_at t1
 have a1 : w2.cell? ⟨w.heap.size + 1,1,none⟩ = some (.slice none 0 0):=cell_at t1
 have f1 : w2.frozen? ⟨w.heap.size + 1,1,none⟩ = false:=free_at t1
 have a2 : w2.cell? ⟨w.heap.size + 1,2,none⟩ = some (.slice none 0 0):=cell_at t1
 have f2 : w2.frozen? ⟨w.heap.size + 1,2,none⟩ = false:=free_at t1
 have a3 : w2.cell? ⟨w.heap.size + 1,3,none⟩ = some (.int .i64 0):=cell_at t1
 have f3 : w2.frozen? ⟨w.heap.size + 1,3,none⟩ = false:=free_at t1
 have a4 : w2.cell? ⟨w.heap.size + 1,4,none⟩ = some (.int .i8 0):=cell_at t1
 have f4 : w2.frozen? ⟨w.heap.size + 1,4,none⟩ = false:=free_at t1
 have a5 : w2.cell? ⟨w.heap.size + 1,5,none⟩ = some (.slice none 0 0):=cell_at t1
 have f5 : w2.frozen? ⟨w.heap.size + 1,5,none⟩ = false:=free_at t1
 have a6 : w2.cell? ⟨w.heap.size + 1,6,none⟩ = some (.int .i8 0):=cell_at t1
 have f6 : w2.frozen? ⟨w.heap.size + 1,6,none⟩ = false:=free_at t1
 have a7 : w2.cell? ⟨w.heap.size + 1,7,none⟩ = some (.int .i64 0):=cell_at t1
 have f7 : w2.frozen? ⟨w.heap.size + 1,7,none⟩ = false:=free_at t1
 clear t0 t1 hb2
 rcases hO.2 with ⟨hbad,E,hE,rfl⟩ | ⟨h1,hno,rfl⟩ | ⟨h1,j,x,hx,hxs,hfirst,rfl⟩
 ·have hx' : (E == 0) = false:=by simpa using hE
  have HX:=hid (And.intro hbad hE)
  clear hbad hE hO
  go_wp2_with fail
  obtain ⟨z1,zk⟩:=fin8 (.slice none 0 0) (.slice none 0 0) (.slice none 0 0) (.int .i64 0) (.int .i8 0) (.slice none 0 0) (.int .i8 0) (.int .i64 0) HT.out.2
  exact bodyPost_ret (v:=.tuple #[zSv,.int .i64 E]) (res7 z1 rfl rfl) rfl ⟨HB2.out.trans (zk.to_below (B:=w.heap.size) HB2.out.size (fun k hk h => by have h : k = w.heap.size + 1:=h; omega)),.inl ⟨E,HX.out.2,.inl HX.out.1,rfl⟩⟩
 ·have HX:=hid hno
  clear hno hO
  go_wp2_with fail
  obtain ⟨z1,zk⟩:=fin8 (.slice none 0 0) (.slice none 0 0) (.slice none 0 0) (.int .i64 0) (.int .i8 0) (.slice none 0 0) (.int .i8 0) (.int .i64 0) HT.out.2
  exact bodyPost_ret (v:=.tuple #[zSv,.int .i64 41]) (res7 z1 rfl rfl) rfl ⟨HB2.out.trans (zk.to_below (B:=w.heap.size) HB2.out.size (fun k hk h => by have h : k = w.heap.size + 1:=h; omega)),.inl ⟨41,by decide,.inr (.inl ⟨rfl,HX.out⟩),rfl⟩⟩
 ·have hpz:=h1
  obtain ⟨N,hfi,hN,hdl,hel,hFit,hOrd⟩:=data_of h1
  have hidx:=chkEx_idx ((listE_zero (chkW_all h1).2.2).2 j x hx)
  obtain ⟨nm,fnn⟩:=x
  simp only at hidx hxs
  obtain ⟨k,hkk⟩ : ∃ k : Nat,fnn = (k : Int):=⟨fnn.toNat,by omega⟩
  subst hkk
  have hkl : k < m.fn:=by omega
  obtain ⟨y,hy⟩ : ∃ y,m.fns[k]? = some y:=⟨_,List.getElem?_eq_getElem (by rw [HM.out.pf.1]; exact hkl)⟩
  obtain ⟨t,P,Q,hyt,htp,hPl,hlet,_⟩:=fn_of h1 HM.out hy
  obtain ⟨yt,ylo,⟨yca,ycn,ycc⟩,yco⟩:=y
  simp only at hyt hPl hlet
  subst hyt
  obtain ⟨fb,fo,hfa,hfc⟩:=HM.out.pf.2.resolve_left (by omega)
  obtain ⟨p0,p1,p2⟩:=hfc k _ hy
  have htl:=lt_of_get htp
  have htl2 : t < m.tn:=by rw [← HM.out.pt.1]; exact htl
  obtain ⟨tb,to_,hta,htc⟩:=HM.out.pt.2.resolve_left (by omega)
  obtain ⟨r0,r1⟩:=htc t _ htp
  have p0:=later_cell HB2.out p0
  have p1:=later_cell HB2.out p1
  have p2:=later_cell HB2.out p2
  have r0:=later_cell HB2.out r0
  have d0 : w2.cell? ⟨w.heap.size,0,none⟩ = some (.slice (some ⟨tb,to_,none⟩) m.tn m.tc):=by rw [← hta]; exact cell_at HT.out.1
  have d5 : w2.cell? ⟨w.heap.size,5,none⟩ = some (.slice (some ⟨fb,fo,none⟩) m.fn m.fc):=by rw [← hfa]; exact cell_at HT.out.1
  have HFX : Hid (FunX m s k (↑t,ylo,(yca,ycn,ycc),yco) P):=hid ⟨j,(nm,↑k),Q,⟨hx,hxs,hfirst⟩,rfl,hy,htp⟩
  have hk' : (k : Int) < (m.fn : Int):=by omega
  have ht' : (t : Int) < (m.tn : Int):=by omega
  have B3:=below_new w2 (.cells #[.int .i64 t,.string ylo,.slice yca ycn ycc] 61)
  have hn1 : w.heap.size < w2.heap.size:=by omega
  have HA:=hid (all15 a n cap zs P (w2.alloc (.cells #[.int .i64 t,.string ylo,.slice yca ycn ycc] 61)) ((HS.out.later HB2.out (Nat.le_refl _)).later B3 (Nat.le_refl _)) (by omega))
  have d0':=later_cell B3 d0
  have r0':=later_cell B3 r0
  have HG:=hid (And.intro hPl (And.intro hlet (And.intro hFit (And.intro hOrd (And.intro hN (And.intro hfi (And.intro hdl h1)))))))
  have H3:=hid B3
  clear hx hxs hfirst hy htp hfc htc hPl hlet hFit hOrd hN hdl hel hidx h1 hpz hO htl hta hfa hfi B3
  go_wp2_with fail
  refine HA.out.mono ?_
  rintro e w4 ⟨rfl,hb4⟩
  have HB4 : Hid (Below w.heap.size w w4):=hid (HB2.out.trans ((H3.out.trans (hb4.mono H3.out.size)).mono HB2.out.size))
  have hs4 : w2.heap.size < w4.heap.size:=by have:=hb4.size; simp at this; omega
  have t0:=blk_later hb4 (blk_later H3.out HT.out.1)
  have t1:=blk_later hb4 (blk_later H3.out HT.out.2)
  have t2:=blk_later hb4 (heap_alloc_new w2 (.cells #[.int .i64 t,.string ylo,.slice yca ycn ycc] 61))
  clear a0 f0 a1 f1 a2 f2 a3 f3 a4 f4 a5 f5 a6 f6 a7 f7
  have a0 : w4.cell? ⟨w.heap.size + 1,0,none⟩ = some (.slice none 0 0):=cell_at t1
  have f0 : w4.frozen? ⟨w.heap.size + 1,0,none⟩ = false:=free_at t1
  have a1 : w4.cell? ⟨w.heap.size + 1,1,none⟩ = some (.slice none 0 0):=cell_at t1
  have f1 : w4.frozen? ⟨w.heap.size + 1,1,none⟩ = false:=free_at t1
  have a2 : w4.cell? ⟨w.heap.size + 1,2,none⟩ = some (.slice none 0 0):=cell_at t1
  have f2 : w4.frozen? ⟨w.heap.size + 1,2,none⟩ = false:=free_at t1
  have a3 : w4.cell? ⟨w.heap.size + 1,3,none⟩ = some (.int .i64 0):=cell_at t1
  have f3 : w4.frozen? ⟨w.heap.size + 1,3,none⟩ = false:=free_at t1
  have a4 : w4.cell? ⟨w.heap.size + 1,4,none⟩ = some (.int .i8 0):=cell_at t1
  have f4 : w4.frozen? ⟨w.heap.size + 1,4,none⟩ = false:=free_at t1
  have a5 : w4.cell? ⟨w.heap.size + 1,5,none⟩ = some (.slice none 0 0):=cell_at t1
  have f5 : w4.frozen? ⟨w.heap.size + 1,5,none⟩ = false:=free_at t1
  have a6 : w4.cell? ⟨w.heap.size + 1,6,none⟩ = some (.int .i8 0):=cell_at t1
  have f6 : w4.frozen? ⟨w.heap.size + 1,6,none⟩ = false:=free_at t1
  have a7 : w4.cell? ⟨w.heap.size + 1,7,none⟩ = some (.int .i64 0):=cell_at t1
  have f7 : w4.frozen? ⟨w.heap.size + 1,7,none⟩ = false:=free_at t1
  have HT4:=hid (And.intro t0 (And.intro t1 t2))
  clear t0 t1 t2 HT HA hb4 d0 d5 p0 p1 p2 r0 d0' r0' H3
  cases hall : allB zs P
  ·go_wp2_with fail
   obtain ⟨z1,zk⟩:=fin8 (.slice none 0 0) (.slice none 0 0) (.slice none 0 0) (.int .i64 0) (.int .i8 0) (.slice none 0 0) (.int .i8 0) (.int .i64 0) HT4.out.2.1
   exact bodyPost_ret (v:=.tuple #[zSv,.int .i64 42]) (res7 z1 rfl rfl) rfl ⟨HB4.out.trans (zk.to_below (B:=w.heap.size) HB4.out.size (fun k hk h => by have h : k = w.heap.size + 1:=h; omega)),.inl ⟨42,by decide,.inr (.inr ⟨k,_,P,HFX.out,hall⟩),rfl⟩⟩
  ·clear a0 f0 a1 f1 a2 f2 a3 f3 a4 f4 a5 f5 a6 f6 a7 f7
   obtain ⟨hPl,hlet,hFit,hOrd,hN,hfi,hdl,h1⟩:=HG.out
   have hal:=(allB_iff zs P).1 hall
   have hzn:=HS.out.1
   have H16:=hid (fun (W : World) (hb : Below w4.heap.size w4 W) => loc16 (P ++ ylo) a n cap zs W ((HS.out.later HB4.out (Nat.le_refl _)).later hb (Nat.le_refl _)) (by rw [ByteArray.size_append]; omega) (lett_cat hlet) (by rw [ByteArray.size_append]; omega))
   have H17:=hid (fun (W : World) (hb : Below w4.heap.size w4 W) => glb17 m.ga m.gn m.gc m.globals W ((HM.out.pg.kept (kept_of (S:=fun _ => False) HB4.out) (fun _ _ _ _ => id)).kept (kept_of (S:=fun _ => False) hb) (fun _ _ _ _ => id)) (by
    have h2:=(listE_zero (chkW_of h1).2.2.1).1
    rw [HM.out.pg.1] at h2
    omega))
   have H18:=hid (fun (W : World) (hb : Below w4.heap.size w4 W) (v0 v1 v2 v4 v5 v7 : Value) => pag18 v0 v1 v2 v4 v5 v7 N m.da m.dn m.dc m.data W hN (by rw [← HM.out.pd.1]; exact hdl) ((HM.out.pd.kept (kept_of (S:=fun _ => False) HB4.out) (fun _ _ _ _ => id)).kept (kept_of (S:=fun _ => False) hb) (fun _ _ _ _ => id)) (fun j x hj => ((HM.out.dr j x hj).2.1.later HB4.out (Nat.le_refl _)).later hb (Nat.le_refl _)) hFit)
   have HFI:=hid (And.intro h1 (And.intro hfi (And.intro hall hn1)))
   have hsum : ¬ 9223372036854775807 < P.size + ylo.size:=by omega
   have e1 : w4.cell? ⟨w2.heap.size,1,none⟩ = some (.string ylo):=cell_at HT4.out.2.2
   have d0 : w4.cell? ⟨w.heap.size,0,none⟩ = some (.slice m.ta m.tn m.tc):=cell_at HT4.out.1
   have d1 : w4.cell? ⟨w.heap.size,1,none⟩ = some (.slice m.ha m.hn m.hc):=cell_at HT4.out.1
   have d2 : w4.cell? ⟨w.heap.size,2,none⟩ = some (.slice m.ga m.gn m.gc):=cell_at HT4.out.1
   have d3 : w4.cell? ⟨w.heap.size,3,none⟩ = some (.int .i64 N):=by rw [← hfi]; exact cell_at HT4.out.1
   have d4 : w4.cell? ⟨w.heap.size,4,none⟩ = some (.int .i64 m.mo):=cell_at HT4.out.1
   have d5 : w4.cell? ⟨w.heap.size,5,none⟩ = some (.slice m.fa m.fn m.fc):=cell_at HT4.out.1
   have d6 : w4.cell? ⟨w.heap.size,6,none⟩ = some (.slice m.da m.dn m.dc):=cell_at HT4.out.1
   have d7 : w4.cell? ⟨w.heap.size,7,none⟩ = some (.slice m.ea m.en m.ec):=cell_at HT4.out.1
   have HMK:=hid (fun (W : World) (hb : Below w4.heap.size w4 W) => And.intro (later_cell hb e1) (And.intro (later_cell hb d0) (And.intro (later_cell hb d1) (And.intro (later_cell hb d2) (And.intro (later_cell hb d3) (And.intro (later_cell hb d4) (And.intro (later_cell hb d5) (And.intro (later_cell hb d6) (later_cell hb d7)))))))))
   clear e1 d0 d1 d2 d3 d4 d5 d6 d7 hPl hlet hFit hOrd hN hfi hdl h1 hal hzn hall
   go_wp2_with fail
   have n1 : ¬ w.heap.size = w.heap.size + 1:=by omega
   have n2 : ¬ w2.heap.size = w.heap.size + 1:=by omega
   refine wp_region_held_drew (S:=fun W => W.cell? ⟨w2.heap.size,1,none⟩ = some (.string ylo) ∧ W.cell? ⟨w.heap.size,0,none⟩ = some (.slice m.ta m.tn m.tc) ∧ W.cell? ⟨w.heap.size,1,none⟩ = some (.slice m.ha m.hn m.hc) ∧ W.cell? ⟨w.heap.size,2,none⟩ = some (.slice m.ga m.gn m.gc) ∧ W.cell? ⟨w.heap.size,3,none⟩ = some (.int .i64 N) ∧ W.cell? ⟨w.heap.size,4,none⟩ = some (.int .i64 m.mo) ∧ W.cell? ⟨w.heap.size,5,none⟩ = some (.slice m.fa m.fn m.fc) ∧ W.cell? ⟨w.heap.size,6,none⟩ = some (.slice m.da m.dn m.dc) ∧ W.cell? ⟨w.heap.size,7,none⟩ = some (.slice m.ea m.en m.ec)) (by kernel_rfl) (HMK.out _ (below_drewN w4 1)) (fun hS5 => ?_)
   have B5 : Hid (Below w4.heap.size w4 w4.drew):=hid (below_drewN w4 1)
   generalize w4.drew = w5 at *
   refine tkFh (i:=0) rfl ?_
   try simp only [Act.put,sIB]
   refine tkFh (i:=1) rfl ?_
   try simp only [Act.put]
   refine tkFh (i:=2) rfl ?_
   try simp only [Act.put]
   refine tkFh (i:=3) rfl ?_
   try simp only [Act.put]
   refine tkFh (i:=4) rfl ?_
   try simp only [Act.put]
   refine tkFh (i:=5) rfl ?_
   try simp only [Act.put]
   refine tkFh (i:=9) rfl ?_
   try simp only [Act.put]
   refine tkFh (i:=10) rfl ?_
   try simp only [Act.put]
   refine tkFh (i:=12) rfl ?_
   try simp only [Act.put]
   refine rdFy (rs:=[6]) ?_
   refine rdFc (i:=6) rfl (fun K hK => ?_) AllReadyH.nil
   go_simp
   refine (H16.out _ B5.out).mono ?_
   rintro e w6 ⟨LO,rfl,hLO0,hrL,hb6⟩
   have L0 : Hid (RB .u64 53 w6 LO (P.size + ylo.size) (locF zs)):=hid (by rw [← ByteArray.size_append]; exact hrL)
   have hLO : Hid (w4.heap.size ≤ LO):=hid (Nat.le_trans B5.out.size hLO0)
   have B6:=hid (B5.out.trans (hb6.mono B5.out.size))
   refine hK.out _ _ (HMK.out _ B6.out) (fun _ => ?_)
   clear hK K hLO0 hrL hb6 hS5
   refine tkFh (i:=7) rfl ?_
   try simp only [Act.put,sIB]
   refine rdFy (rs:=[8,11]) ?_
   refine rdFc (i:=8) rfl (fun K hK => ?_) (rdFc (i:=11) rfl (fun K hK => ?_) AllReadyH.nil)
   ·go_simp
    obtain ⟨w7,hw7⟩ : ∃ W,W = w6.alloc (.cells #[.int .i64 k,.int .i64 0,.slice (some ⟨LO,0,none⟩) (P.size + ylo.size) (P.size + ylo.size),.slice none 0 0] 47):=⟨_,rfl⟩
    have hb7 : Below w6.heap.size w6 w7:=by rw [hw7]; exact below_new _ _
    have F0 : Hid (w7.heap[w6.heap.size]? = some (.cells #[.int .i64 k,.int .i64 0,.slice (some ⟨LO,0,none⟩) (P.size + ylo.size) (P.size + ylo.size),.slice none 0 0] 47)):=hid (by rw [hw7]; exact heap_alloc_new _ _)
    have F1:=hid (show w4.heap.size ≤ w6.heap.size from B6.out.size)
    have B7:=hid (B6.out.trans (hb7.mono B6.out.size))
    have L0 : Hid (RB .u64 53 w7 LO (P.size + ylo.size) (locF zs)):=hid (L0.out.later hb7)
    rw [← hw7]
    refine hK.out _ _ (HMK.out _ B7.out) (fun _ => ?_)
    clear hK K hb7 hw7
    generalize w6.heap.size = FB at F0 F1 ⊢
    refine rdFy (rs:=[11]) ?_
    refine rdFc (i:=11) rfl (fun K hK => ?_) AllReadyH.nil
    go_simp
    refine (H17.out _ B7.out).mono ?_
    rintro e w8 ⟨GB,rfl,hGB,hrG,hb8⟩
    have G0 : Hid (RB .u64 53 w8 GB m.gn (glF m.globals)):=hid hrG
    have G1 : Hid (w4.heap.size ≤ GB):=hid (Nat.le_trans B7.out.size hGB)
    have B8:=hid (B7.out.trans (hb8.mono B7.out.size))
    have L0 : Hid (RB .u64 53 w8 LO (P.size + ylo.size) (locF zs)):=hid (L0.out.later hb8)
    have F0:=hid (blk_later hb8 F0.out)
    refine hK.out _ _ (HMK.out _ B8.out) (fun _ => ?_)
    clear hK K hb8 hGB hrG
    refine rdFy (rs:=[13]) ?_
    refine rdFc (i:=13) rfl (fun K hK => ?_) AllReadyH.nil
    go_simp
    refine (H18.out _ B8.out _ _ _ _ _ _).mono ?_
    rintro e w9 ⟨LB,R,rfl,hLB,hR,hpl,hrb,hb9⟩
    have P0 : Hid (w9.heap[LB]? = some (.cells (pgL R N).toArray 49) ∧ RB .u8 5 w9 R (N * 4096) (layA m.data)):=hid ⟨hpl,hrb⟩
    have P1 : Hid (w4.heap.size ≤ LB ∧ w4.heap.size ≤ R):=hid ⟨Nat.le_trans B8.out.size hLB,Nat.le_trans B8.out.size hR⟩
    have B9:=hid (B8.out.trans (hb9.mono B8.out.size))
    have L0 : Hid (RB .u64 53 w9 LO (P.size + ylo.size) (locF zs)):=hid (L0.out.later hb9)
    have F0:=hid (blk_later hb9 F0.out)
    have G0:=hid (G0.out.later hb9)
    refine hK.out _ _ (HMK.out _ B9.out) (fun _ => ?_)
    clear hK K hb9 hLB hR hpl hrb
    refine tkFh (i:=14) rfl ?_
    try simp only [Act.put,sIB]
    have kr:=blk_later B9.out HT4.out.2.1
    have a0 : w9.cell? ⟨w.heap.size + 1,0,none⟩ = some (.slice none 0 0):=cell_at kr
    have f0 : w9.frozen? ⟨w.heap.size + 1,0,none⟩ = false:=free_at kr
    have a1 : w9.cell? ⟨w.heap.size + 1,1,none⟩ = some (.slice none 0 0):=cell_at kr
    have f1 : w9.frozen? ⟨w.heap.size + 1,1,none⟩ = false:=free_at kr
    have a2 : w9.cell? ⟨w.heap.size + 1,2,none⟩ = some (.slice none 0 0):=cell_at kr
    have f2 : w9.frozen? ⟨w.heap.size + 1,2,none⟩ = false:=free_at kr
    have a3 : w9.cell? ⟨w.heap.size + 1,3,none⟩ = some (.int .i64 0):=cell_at kr
    have f3 : w9.frozen? ⟨w.heap.size + 1,3,none⟩ = false:=free_at kr
    have a4 : w9.cell? ⟨w.heap.size + 1,4,none⟩ = some (.int .i8 0):=cell_at kr
    have f4 : w9.frozen? ⟨w.heap.size + 1,4,none⟩ = false:=free_at kr
    have a5 : w9.cell? ⟨w.heap.size + 1,5,none⟩ = some (.slice none 0 0):=cell_at kr
    have f5 : w9.frozen? ⟨w.heap.size + 1,5,none⟩ = false:=free_at kr
    have a6 : w9.cell? ⟨w.heap.size + 1,6,none⟩ = some (.int .i8 0):=cell_at kr
    have f6 : w9.frozen? ⟨w.heap.size + 1,6,none⟩ = false:=free_at kr
    have a7 : w9.cell? ⟨w.heap.size + 1,7,none⟩ = some (.int .i64 0):=cell_at kr
    have f7 : w9.frozen? ⟨w.heap.size + 1,7,none⟩ = false:=free_at kr
    have hse:=HMK.out _ B9.out
    obtain ⟨z1,zk⟩:=fin8 (.slice (some ⟨FB,0,none⟩) 1 1) (.slice (some ⟨GB,0,none⟩) m.gn m.gn) (.slice (some ⟨LB,0,none⟩) N N) (.int .i64 0) (.int .i8 1) (.slice none 0 0) (.int .i8 0) (.int .i64 0) kr
    have HZ:=hid (And.intro z1 zk)
    have hS9:=And.intro (zk.cell hse.1 n2) (And.intro (zk.cell hse.2.1 n1) (And.intro (zk.cell hse.2.2.1 n1) (And.intro (zk.cell hse.2.2.2.1 n1) (And.intro (zk.cell hse.2.2.2.2.1 n1) (And.intro (zk.cell hse.2.2.2.2.2.1 n1) (And.intro (zk.cell hse.2.2.2.2.2.2.1 n1) (And.intro (zk.cell hse.2.2.2.2.2.2.2.1 n1) (zk.cell hse.2.2.2.2.2.2.2.2 n1))))))))
    clear kr z1 zk hse
    refine rdFy (rs:=[15]) ?_
    refine rdFc (i:=15) rfl (fun K hK => ?_) AllReadyH.nil
    go_simp
    refine hK.out _ _ hS9 (fun _ => ?_)
    clear hK K hS9 a0 f0 a1 f1 a2 f2 a3 f3 a4 f4 a5 f5 a6 f6 a7 f7
    refine tkFh (i:=16) (oi:={ dst:=some 7,op:=.assign (.const (Go.Value.int Go.IntKind.i64 0)),type:=38,pos:= "instance.go:30",after:=#[⟨15,.chain⟩,⟨0,.phase⟩,⟨1,.phase⟩,⟨2,.phase⟩,⟨3,.phase⟩,⟨4,.phase⟩,⟨5,.phase⟩,⟨6,.phase⟩,⟨7,.phase⟩,⟨8,.phase⟩,⟨9,.phase⟩,⟨10,.phase⟩,⟨11,.phase⟩,⟨12,.phase⟩,⟨13,.phase⟩,⟨14,.phase⟩,⟨15,.phase⟩],guard:=none }) rfl ?_
    try simp only [Act.put,sIB,sC0,sCs]
    refine wpAnyH_done (by kernel_rfl) ?_ _
    go_wp2_with fail
    exact bodyPost_ret (v:=.tuple #[.agg (begV FB GB LB N m.gn),.int .i64 0]) (res7 HZ.out.1 rfl rfl) rfl (beg_out HB4.out B9.out HFI.out.1 HFI.out.2.1 HFI.out.2.2.1 HFX.out F0.out F1.out L0.out hLO.out G0.out G1.out P0.out P1.out HZ.out.2 hs2 (by omega))
   ·go_simp
    refine (H17.out _ B6.out).mono ?_
    rintro e w7 ⟨GB,rfl,hGB,hrG,hb7⟩
    have G0 : Hid (RB .u64 53 w7 GB m.gn (glF m.globals)):=hid hrG
    have G1 : Hid (w4.heap.size ≤ GB):=hid (Nat.le_trans B6.out.size hGB)
    have B7:=hid (B6.out.trans (hb7.mono B6.out.size))
    have L0 : Hid (RB .u64 53 w7 LO (P.size + ylo.size) (locF zs)):=hid (L0.out.later hb7)
    refine hK.out _ _ (HMK.out _ B7.out) (fun _ => ?_)
    clear hK K hb7 hGB hrG
    refine rdFy (rs:=[8,13]) ?_
    refine rdFc (i:=8) rfl (fun K hK => ?_) (rdFc (i:=13) rfl (fun K hK => ?_) AllReadyH.nil)
    ·go_simp
     obtain ⟨w8,hw8⟩ : ∃ W,W = w7.alloc (.cells #[.int .i64 k,.int .i64 0,.slice (some ⟨LO,0,none⟩) (P.size + ylo.size) (P.size + ylo.size),.slice none 0 0] 47):=⟨_,rfl⟩
     have hb8 : Below w7.heap.size w7 w8:=by rw [hw8]; exact below_new _ _
     have F0 : Hid (w8.heap[w7.heap.size]? = some (.cells #[.int .i64 k,.int .i64 0,.slice (some ⟨LO,0,none⟩) (P.size + ylo.size) (P.size + ylo.size),.slice none 0 0] 47)):=hid (by rw [hw8]; exact heap_alloc_new _ _)
     have F1:=hid (show w4.heap.size ≤ w7.heap.size from B7.out.size)
     have B8:=hid (B7.out.trans (hb8.mono B7.out.size))
     have L0 : Hid (RB .u64 53 w8 LO (P.size + ylo.size) (locF zs)):=hid (L0.out.later hb8)
     have G0:=hid (G0.out.later hb8)
     rw [← hw8]
     refine hK.out _ _ (HMK.out _ B8.out) (fun _ => ?_)
     clear hK K hb8 hw8
     generalize w7.heap.size = FB at F0 F1 ⊢
     refine rdFy (rs:=[13]) ?_
     refine rdFc (i:=13) rfl (fun K hK => ?_) AllReadyH.nil
     go_simp
     refine (H18.out _ B8.out _ _ _ _ _ _).mono ?_
     rintro e w9 ⟨LB,R,rfl,hLB,hR,hpl,hrb,hb9⟩
     have P0 : Hid (w9.heap[LB]? = some (.cells (pgL R N).toArray 49) ∧ RB .u8 5 w9 R (N * 4096) (layA m.data)):=hid ⟨hpl,hrb⟩
     have P1 : Hid (w4.heap.size ≤ LB ∧ w4.heap.size ≤ R):=hid ⟨Nat.le_trans B8.out.size hLB,Nat.le_trans B8.out.size hR⟩
     have B9:=hid (B8.out.trans (hb9.mono B8.out.size))
     have L0 : Hid (RB .u64 53 w9 LO (P.size + ylo.size) (locF zs)):=hid (L0.out.later hb9)
     have F0:=hid (blk_later hb9 F0.out)
     have G0:=hid (G0.out.later hb9)
     refine hK.out _ _ (HMK.out _ B9.out) (fun _ => ?_)
     clear hK K hb9 hLB hR hpl hrb
     refine tkFh (i:=14) rfl ?_
     try simp only [Act.put,sIB]
     have kr:=blk_later B9.out HT4.out.2.1
     have a0 : w9.cell? ⟨w.heap.size + 1,0,none⟩ = some (.slice none 0 0):=cell_at kr
     have f0 : w9.frozen? ⟨w.heap.size + 1,0,none⟩ = false:=free_at kr
     have a1 : w9.cell? ⟨w.heap.size + 1,1,none⟩ = some (.slice none 0 0):=cell_at kr
     have f1 : w9.frozen? ⟨w.heap.size + 1,1,none⟩ = false:=free_at kr
     have a2 : w9.cell? ⟨w.heap.size + 1,2,none⟩ = some (.slice none 0 0):=cell_at kr
     have f2 : w9.frozen? ⟨w.heap.size + 1,2,none⟩ = false:=free_at kr
     have a3 : w9.cell? ⟨w.heap.size + 1,3,none⟩ = some (.int .i64 0):=cell_at kr
     have f3 : w9.frozen? ⟨w.heap.size + 1,3,none⟩ = false:=free_at kr
     have a4 : w9.cell? ⟨w.heap.size + 1,4,none⟩ = some (.int .i8 0):=cell_at kr
     have f4 : w9.frozen? ⟨w.heap.size + 1,4,none⟩ = false:=free_at kr
     have a5 : w9.cell? ⟨w.heap.size + 1,5,none⟩ = some (.slice none 0 0):=cell_at kr
     have f5 : w9.frozen? ⟨w.heap.size + 1,5,none⟩ = false:=free_at kr
     have a6 : w9.cell? ⟨w.heap.size + 1,6,none⟩ = some (.int .i8 0):=cell_at kr
     have f6 : w9.frozen? ⟨w.heap.size + 1,6,none⟩ = false:=free_at kr
     have a7 : w9.cell? ⟨w.heap.size + 1,7,none⟩ = some (.int .i64 0):=cell_at kr
     have f7 : w9.frozen? ⟨w.heap.size + 1,7,none⟩ = false:=free_at kr
     have hse:=HMK.out _ B9.out
     obtain ⟨z1,zk⟩:=fin8 (.slice (some ⟨FB,0,none⟩) 1 1) (.slice (some ⟨GB,0,none⟩) m.gn m.gn) (.slice (some ⟨LB,0,none⟩) N N) (.int .i64 0) (.int .i8 1) (.slice none 0 0) (.int .i8 0) (.int .i64 0) kr
     have HZ:=hid (And.intro z1 zk)
     have hS9:=And.intro (zk.cell hse.1 n2) (And.intro (zk.cell hse.2.1 n1) (And.intro (zk.cell hse.2.2.1 n1) (And.intro (zk.cell hse.2.2.2.1 n1) (And.intro (zk.cell hse.2.2.2.2.1 n1) (And.intro (zk.cell hse.2.2.2.2.2.1 n1) (And.intro (zk.cell hse.2.2.2.2.2.2.1 n1) (And.intro (zk.cell hse.2.2.2.2.2.2.2.1 n1) (zk.cell hse.2.2.2.2.2.2.2.2 n1))))))))
     clear kr z1 zk hse
     refine rdFy (rs:=[15]) ?_
     refine rdFc (i:=15) rfl (fun K hK => ?_) AllReadyH.nil
     go_simp
     refine hK.out _ _ hS9 (fun _ => ?_)
     clear hK K hS9 a0 f0 a1 f1 a2 f2 a3 f3 a4 f4 a5 f5 a6 f6 a7 f7
     refine tkFh (i:=16) (oi:={ dst:=some 7,op:=.assign (.const (Go.Value.int Go.IntKind.i64 0)),type:=38,pos:= "instance.go:30",after:=#[⟨15,.chain⟩,⟨0,.phase⟩,⟨1,.phase⟩,⟨2,.phase⟩,⟨3,.phase⟩,⟨4,.phase⟩,⟨5,.phase⟩,⟨6,.phase⟩,⟨7,.phase⟩,⟨8,.phase⟩,⟨9,.phase⟩,⟨10,.phase⟩,⟨11,.phase⟩,⟨12,.phase⟩,⟨13,.phase⟩,⟨14,.phase⟩,⟨15,.phase⟩],guard:=none }) rfl ?_
     try simp only [Act.put,sIB,sC0,sCs]
     refine wpAnyH_done (by kernel_rfl) ?_ _
     go_wp2_with fail
     exact bodyPost_ret (v:=.tuple #[.agg (begV FB GB LB N m.gn),.int .i64 0]) (res7 HZ.out.1 rfl rfl) rfl (beg_out HB4.out B9.out HFI.out.1 HFI.out.2.1 HFI.out.2.2.1 HFX.out F0.out F1.out L0.out hLO.out G0.out G1.out P0.out P1.out HZ.out.2 hs2 (by omega))
    ·go_simp
     refine (H18.out _ B7.out _ _ _ _ _ _).mono ?_
     rintro e w8 ⟨LB,R,rfl,hLB,hR,hpl,hrb,hb8⟩
     have P0 : Hid (w8.heap[LB]? = some (.cells (pgL R N).toArray 49) ∧ RB .u8 5 w8 R (N * 4096) (layA m.data)):=hid ⟨hpl,hrb⟩
     have P1 : Hid (w4.heap.size ≤ LB ∧ w4.heap.size ≤ R):=hid ⟨Nat.le_trans B7.out.size hLB,Nat.le_trans B7.out.size hR⟩
     have B8:=hid (B7.out.trans (hb8.mono B7.out.size))
     have L0 : Hid (RB .u64 53 w8 LO (P.size + ylo.size) (locF zs)):=hid (L0.out.later hb8)
     have G0:=hid (G0.out.later hb8)
     refine hK.out _ _ (HMK.out _ B8.out) (fun _ => ?_)
     clear hK K hb8 hLB hR hpl hrb
     refine rdFy (rs:=[8]) ?_
     refine rdFc (i:=8) rfl (fun K hK => ?_) AllReadyH.nil
     go_simp
     obtain ⟨w9,hw9⟩ : ∃ W,W = w8.alloc (.cells #[.int .i64 k,.int .i64 0,.slice (some ⟨LO,0,none⟩) (P.size + ylo.size) (P.size + ylo.size),.slice none 0 0] 47):=⟨_,rfl⟩
     have hb9 : Below w8.heap.size w8 w9:=by rw [hw9]; exact below_new _ _
     have F0 : Hid (w9.heap[w8.heap.size]? = some (.cells #[.int .i64 k,.int .i64 0,.slice (some ⟨LO,0,none⟩) (P.size + ylo.size) (P.size + ylo.size),.slice none 0 0] 47)):=hid (by rw [hw9]; exact heap_alloc_new _ _)
     have F1:=hid (show w4.heap.size ≤ w8.heap.size from B8.out.size)
     have B9:=hid (B8.out.trans (hb9.mono B8.out.size))
     have L0 : Hid (RB .u64 53 w9 LO (P.size + ylo.size) (locF zs)):=hid (L0.out.later hb9)
     have G0:=hid (G0.out.later hb9)
     have P0:=hid (And.intro (blk_later hb9 P0.out.1) (P0.out.2.later hb9))
     rw [← hw9]
     refine hK.out _ _ (HMK.out _ B9.out) (fun _ => ?_)
     clear hK K hb9 hw9
     generalize w8.heap.size = FB at F0 F1 ⊢
     refine tkFh (i:=14) rfl ?_
     try simp only [Act.put,sIB]
     have kr:=blk_later B9.out HT4.out.2.1
     have a0 : w9.cell? ⟨w.heap.size + 1,0,none⟩ = some (.slice none 0 0):=cell_at kr
     have f0 : w9.frozen? ⟨w.heap.size + 1,0,none⟩ = false:=free_at kr
     have a1 : w9.cell? ⟨w.heap.size + 1,1,none⟩ = some (.slice none 0 0):=cell_at kr
     have f1 : w9.frozen? ⟨w.heap.size + 1,1,none⟩ = false:=free_at kr
     have a2 : w9.cell? ⟨w.heap.size + 1,2,none⟩ = some (.slice none 0 0):=cell_at kr
     have f2 : w9.frozen? ⟨w.heap.size + 1,2,none⟩ = false:=free_at kr
     have a3 : w9.cell? ⟨w.heap.size + 1,3,none⟩ = some (.int .i64 0):=cell_at kr
     have f3 : w9.frozen? ⟨w.heap.size + 1,3,none⟩ = false:=free_at kr
     have a4 : w9.cell? ⟨w.heap.size + 1,4,none⟩ = some (.int .i8 0):=cell_at kr
     have f4 : w9.frozen? ⟨w.heap.size + 1,4,none⟩ = false:=free_at kr
     have a5 : w9.cell? ⟨w.heap.size + 1,5,none⟩ = some (.slice none 0 0):=cell_at kr
     have f5 : w9.frozen? ⟨w.heap.size + 1,5,none⟩ = false:=free_at kr
     have a6 : w9.cell? ⟨w.heap.size + 1,6,none⟩ = some (.int .i8 0):=cell_at kr
     have f6 : w9.frozen? ⟨w.heap.size + 1,6,none⟩ = false:=free_at kr
     have a7 : w9.cell? ⟨w.heap.size + 1,7,none⟩ = some (.int .i64 0):=cell_at kr
     have f7 : w9.frozen? ⟨w.heap.size + 1,7,none⟩ = false:=free_at kr
     have hse:=HMK.out _ B9.out
     obtain ⟨z1,zk⟩:=fin8 (.slice (some ⟨FB,0,none⟩) 1 1) (.slice (some ⟨GB,0,none⟩) m.gn m.gn) (.slice (some ⟨LB,0,none⟩) N N) (.int .i64 0) (.int .i8 1) (.slice none 0 0) (.int .i8 0) (.int .i64 0) kr
     have HZ:=hid (And.intro z1 zk)
     have hS9:=And.intro (zk.cell hse.1 n2) (And.intro (zk.cell hse.2.1 n1) (And.intro (zk.cell hse.2.2.1 n1) (And.intro (zk.cell hse.2.2.2.1 n1) (And.intro (zk.cell hse.2.2.2.2.1 n1) (And.intro (zk.cell hse.2.2.2.2.2.1 n1) (And.intro (zk.cell hse.2.2.2.2.2.2.1 n1) (And.intro (zk.cell hse.2.2.2.2.2.2.2.1 n1) (zk.cell hse.2.2.2.2.2.2.2.2 n1))))))))
     clear kr z1 zk hse
     refine rdFy (rs:=[15]) ?_
     refine rdFc (i:=15) rfl (fun K hK => ?_) AllReadyH.nil
     go_simp
     refine hK.out _ _ hS9 (fun _ => ?_)
     clear hK K hS9 a0 f0 a1 f1 a2 f2 a3 f3 a4 f4 a5 f5 a6 f6 a7 f7
     refine tkFh (i:=16) (oi:={ dst:=some 7,op:=.assign (.const (Go.Value.int Go.IntKind.i64 0)),type:=38,pos:= "instance.go:30",after:=#[⟨15,.chain⟩,⟨0,.phase⟩,⟨1,.phase⟩,⟨2,.phase⟩,⟨3,.phase⟩,⟨4,.phase⟩,⟨5,.phase⟩,⟨6,.phase⟩,⟨7,.phase⟩,⟨8,.phase⟩,⟨9,.phase⟩,⟨10,.phase⟩,⟨11,.phase⟩,⟨12,.phase⟩,⟨13,.phase⟩,⟨14,.phase⟩,⟨15,.phase⟩],guard:=none }) rfl ?_
     try simp only [Act.put,sIB,sC0,sCs]
     refine wpAnyH_done (by kernel_rfl) ?_ _
     go_wp2_with fail
     exact bodyPost_ret (v:=.tuple #[.agg (begV FB GB LB N m.gn),.int .i64 0]) (res7 HZ.out.1 rfl rfl) rfl (beg_out HB4.out B9.out HFI.out.1 HFI.out.2.1 HFI.out.2.2.1 HFX.out F0.out F1.out L0.out hLO.out G0.out G1.out P0.out P1.out HZ.out.2 hs2 (by omega))
end Go.Proofs.YtepcmfegggdjfaaGreatDoor
