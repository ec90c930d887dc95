/-
  Texts Vaa Vbb Vcc.
-/
import Derived.Deep.OwnRows
import Derived.Test.YtkdldbfbldkkcaaGreatDoorM00
import Derived.Test.YtkdldbfbldkkcaaGreatDoorM37
import Derived.Test.YtkdldbfbldkkcaaGreatDoorM38
import Derived.Test.YtkdldbfbldkkcaaGreatDoorM39
set_option linter.unusedVariables false
set_option maxRecDepth 100000
set_option maxHeartbeats 16000000
namespace Go.Proofs.YtkdldbfbldkkcaaGreatDoor
open Go.RowKit
section
variable {v : Ev} {w1 w : World} {s : Cs}
theorem qH (P R : ByteArray) : Calls Tryz.prog 58 #[.agg #[.string P,.string R]] w fun e w' => e = .returned (.agg #[.string ⟨#[]⟩,.string R,.string ⟨#[]⟩,.int .u8 0,.int .i64 0]) ∧ Below w.heap.size w w':=by
 go_enter Tryz.func58,Tryz.ntmps58
 go_wp2_with fail;refine bodyPost_ret (v:=.agg #[.string ⟨#[]⟩,.string R,.string ⟨#[]⟩,.int .u8 0,.int .i64 0]) ?_ rfl ⟨rfl,?_⟩
 ·exact cF
 ·exact ((Below.refl _ w).alloc (Nat.le_refl _) _).alloc au _
theorem zN {P : Program} {fn : Func} {R : Ending → World → Prop} {a : Act} {w : World} {v : Value} (hd : a.defers = []) (h : (results fn a.tmps).run P w = .ok v w) (hR : R (.returned v) w) : bodyPostD P fn R .ret a w:=by
 show Go.Leaves P fn a.tmps R a.defers .returning w
 rw [hd]; exact ⟨v,h,hR⟩
theorem jq {w W : World} {g i : Nat} {u : Value} (h : Below w.heap.size w W) (hB : w.heap.size ≤ g) : Below w.heap.size w (W.setCell ⟨g,i,none⟩ u):=bF h hB h.size
theorem Kw {w1 : World} {TB EB PB : Nat} {a0 a1 a2 a3 a4 e0 p0 : Value} (t0 t1 t2 t3 t4 ev pv : Value) (bT : w1.heap[TB]? = some (.cells #[a0,a1,a2,a3,a4] 86)) (bE : w1.heap[EB]? = some (.cells #[e0] 39)) (bP : w1.heap[PB]? = some (.cells #[p0] 3)) (n1 : TB ≠ EB) (n2 : TB ≠ PB) (n3 : EB ≠ PB) :
  let W:=((((((w1.setCell ⟨TB,0,none⟩ t0).setCell ⟨TB,1,none⟩ t1).setCell ⟨TB,2,none⟩ t2).setCell ⟨TB,3,none⟩ t3).setCell ⟨TB,4,none⟩ t4).setCell ⟨EB,0,none⟩ ev).setCell ⟨PB,0,none⟩ pv
  W.heap[TB]? = some (.cells #[t0,t1,t2,t3,t4] 86) ∧ W.heap[EB]? = some (.cells #[ev] 39) ∧ W.heap[PB]? = some (.cells #[pv] 3) ∧ Kept (fun k => k = TB ∨ k = EB ∨ k = PB) w1 W:=by
 have s4:=aS (i:=4) (u:=t4) (aS (i:=3) (u:=t3) (aS (i:=2) (u:=t2) (aS (i:=1) (u:=t1) (aS (i:=0) (u:=t0) bT))));have K1:=(((((ay w1 TB 0 t0).trans (ay _ TB 1 t1)).trans (ay _ TB 2 t2)).trans (ay _ TB 3 t3)).trans (ay _ TB 4 t4))
 have e4:=(K1.block EB (aM bE) (fun e => n1 e.symm)).trans bE
 have p4:=(K1.block PB (aM bP) (fun e => n2 e.symm)).trans bP
 generalize ((((w1.setCell ⟨TB,0,none⟩ t0).setCell ⟨TB,1,none⟩ t1).setCell ⟨TB,2,none⟩ t2).setCell ⟨TB,3,none⟩ t3).setCell ⟨TB,4,none⟩ t4 = W5 at *;have KE:=ay W5 EB 0 ev;have KP:=ay (W5.setCell ⟨EB,0,none⟩ ev) PB 0 pv;have e5:=aS (i:=0) (u:=ev) e4
 have p5:=(KE.block PB (aM p4) (fun e => n3 e.symm)).trans p4
 have t5:=(KE.block TB (aM s4) (fun e => n1 e)).trans s4
 have p6:=aS (i:=0) (u:=pv) p5
 have e6:=(KP.block EB (aM e5) (fun e => n3 e)).trans e5
 have t6:=(KP.block TB (aM t5) (fun e => n2 e)).trans t5
 exact ⟨t6,e6,p6,(((Kept.refl (fun k => k = TB ∨ k = EB ∨ k = PB) w1).then K1 (fun k _ h => .inl h)).then KE (fun k _ h => .inr (.inl h))).then KP (fun k _ h => .inr (.inr h))⟩
theorem KF {W : World} {TB EB PB : Nat} {t0 t1 t2 t3 t4 ev pv : Value} {tmps : Array Value} (bT : W.heap[TB]? = some (.cells #[t0,t1,t2,t3,t4] 86)) (bE : W.heap[EB]? = some (.cells #[ev] 39)) (bP : W.heap[PB]? = some (.cells #[pv] 3))
  (h4 : tmps[4]? = some (.pointer (some ⟨TB,0,none⟩))) (h5 : tmps[5]? = some (.pointer (some ⟨EB,0,none⟩))) (h6 : tmps[6]? = some (.pointer (some ⟨PB,0,none⟩))) :
  (results Tryz.f25 tmps).run Tryz.prog W = .ok (.tuple #[.agg #[t0,t1,t2,t3,t4],ev,pv]) W:=by
 have c0 : W.cell? ⟨TB,0,none⟩ = some t0:=ai bT;have c1 : W.cell? ⟨TB,1,none⟩ = some t1:=ai bT;have c2 : W.cell? ⟨TB,2,none⟩ = some t2:=ai bT;have c3 : W.cell? ⟨TB,3,none⟩ = some t3:=ai bT;have c4 : W.cell? ⟨TB,4,none⟩ = some t4:=ai bT;have ce : W.cell? ⟨EB,0,none⟩ = some ev:=ai bE;have cp : W.cell? ⟨PB,0,none⟩ = some pv:=ai bP
 simp [results,Tryz.results25,go_sem,h4,h5,h6,c0,c1,c2,c3,c4,ce,cp]
def W30 (w : World) (m : MM) (ty : Int) (lo : ByteArray) (cv : Value) : World :=
 ((((w.alloc (aR m.ta m.tn m.tc m.ha m.hn m.hc m.ga m.gn m.gc m.fi m.mo m.fa m.fn m.fc m.da m.dn m.dc m.ea m.en m.ec)).alloc (.cells #[.int .i64 ty,.string lo,cv] 59)).alloc (.cells zT 86)).alloc (jz 0)).alloc (bJ 0)
theorem alloc_at {w : World} {o : Obj} {b : Nat} (h : w.heap.size = b) : (w.alloc o).heap[b]? = some o:=by subst h; exact heap_alloc_new w o
theorem rp (w : World) (m : MM) (ty : Int) (lo : ByteArray) (cv : Value) :
  Below w.heap.size w (W30 w m ty lo cv) ∧ (W30 w m ty lo cv).heap.size = w.heap.size + 5 ∧
  (W30 w m ty lo cv).heap[w.heap.size]? = some (.cells (mV m) 29) ∧ (W30 w m ty lo cv).heap[w.heap.size + 1]? = some (.cells #[.int .i64 ty,.string lo,cv] 59) ∧
  (W30 w m ty lo cv).heap[w.heap.size + 1 + 1]? = some (.cells zT 86) ∧ (W30 w m ty lo cv).heap[w.heap.size + 1 + 1 + 1]? = some (jz 0) ∧ (W30 w m ty lo cv).heap[w.heap.size + 1 + 1 + 1 + 1]? = some (bJ 0):=by
 refine ⟨?_,by simp [W30],?_,?_,?_,?_,?_⟩
 ·exact (((((Below.refl _ w).alloc (Nat.le_refl _) _).alloc au _).alloc aI _).alloc aI _).alloc aI _
 ·exact ar (aj _ _) (ar (aj _ _) (ar (aj _ _) (ar (aj _ _) (heap_alloc_new w _))))
 ·exact ar (aj _ _) (ar (aj _ _) (ar (aj _ _) (alloc_at au)))
 ·exact ar (aj _ _) (ar (aj _ _) (alloc_at au))
 ·exact ar (aj _ _) (alloc_at au)
 ·exact alloc_at au
end
section
variable {v : Ev} {w1 w : World} {s : Cs}
theorem wB (m : MM) (ty : Int) (lo : ByteArray) (ca : Option Addr) (cn cc : Nat) (xs : List Inx) (hn : cn ≤ 2048) (hcap : cn ≤ cc) (hc : xy w ca cn xs) (hE : (res (opF xs) cn 0).1 ≠ 0) :
  Calls Tryz.prog 25 #[.agg (mV m),.agg #[.int .i64 ty,.string lo,.slice ca cn cc]] w fun e w' => e = .returned (.tuple #[.agg zT,.int .i64 (res (opF xs) cn 0).1,.int .i64 (res (opF xs) cn 0).2]) ∧ Below w.heap.size w w':=by
 obtain ⟨B0,hz,b0,b1,b2,b3,b4⟩:=rp w m ty lo (.slice ca cn cc);have HM:=hid (Ec ca cn cc xs _ ae hcap (hc.later B0 (Nat.le_refl _)));generalize (res (opF xs) cn 0).1 = E at *;generalize (res (opF xs) cn 0).2 = PC at *;have HW : ((((w.alloc (aR m.ta m.tn m.tc m.ha m.hn m.hc m.ga m.gn m.gc m.fi m.mo m.fa m.fn m.fc m.da m.dn m.dc m.ea m.en m.ec)).alloc (aW ty lo ca cn cc)).alloc (.cells #[.slice none 0 0,.slice none 0 0,.slice none 0 0,.slice none 0 0,.int .i64 0] 86)).alloc (jz 0)).alloc (bJ 0) = W30 w m ty lo (.slice ca cn cc):=rfl;have f2 : (W30 w m ty lo (.slice ca cn cc)).cell? ⟨w.heap.size + 1,2,none⟩ = some (.slice ca cn cc):=ai b1;clear hc;unfold mV
 go_enter_defers Tryz.func25,Tryz.ntmps25
 go_wp2_with fail;generalize W30 w m ty lo (.slice ca cn cc) = W0 at *;refine HM.out.mono ?_;rintro e w2 ⟨a1,a2,a3,n2,rfl,hmo,hb⟩;have d2:=ar hb b2;have d3:=ar hb b3;have d4:=ar hb b4;have e3 : w2.cell? ⟨w.heap.size + 1 + 1 + 1,0,none⟩ = some (.int .i64 0):=ai d3;have g3 : w2.frozen? ⟨w.heap.size + 1 + 1 + 1,0,none⟩ = false:=free_at d3;have e4 : w2.cell? ⟨w.heap.size + 1 + 1 + 1 + 1,0,none⟩ = some (.int .i64 0):=ai d4;have g4 : w2.frozen? ⟨w.heap.size + 1 + 1 + 1 + 1,0,none⟩ = false:=free_at d4;have HB:=hid (B0.trans (hb.mono B0.size));have t0 : w2.cell? ⟨w.heap.size + 1 + 1,0,none⟩ = some (.slice none 0 0):=ai d2;have t1 : w2.cell? ⟨w.heap.size + 1 + 1,1,none⟩ = some (.slice none 0 0):=ai d2;have t2 : w2.cell? ⟨w.heap.size + 1 + 1,2,none⟩ = some (.slice none 0 0):=ai d2;have t3 : w2.cell? ⟨w.heap.size + 1 + 1,3,none⟩ = some (.slice none 0 0):=ai d2;have t4 : w2.cell? ⟨w.heap.size + 1 + 1,4,none⟩ = some (.int .i64 0):=ai d2
 have ft : ∀ i,w2.frozen? ⟨w.heap.size + 1 + 1,i,none⟩ = false:=fun i => free_at d2
 have ft0:=ft 0;have ft1:=ft 1;have ft2:=ft 2;have ft3:=ft 3;have ft4:=ft 4;have HD2:=hid d2;have HD3:=hid d3;have HD4:=hid d4;clear hb hmo b0 b1 b2 b3 b4 B0 HM HW f2 ft d2 d3 d4;go_wp2_with fail
 go_region
 go_wp2_with fail;generalize hWA : (w2.setCell ⟨w.heap.size + 1 + 1 + 1,0,none⟩ (.int .i64 E)).setCell ⟨w.heap.size + 1 + 1 + 1 + 1,0,none⟩ (.int .i64 PC) = WA
 have KA : Below w.heap.size w WA:=by rw [← hWA]; exact jq (jq HB.out ae) ae
 have k3:=aS (i:=0) (u:=.int .i64 E) HD3.out;have kk1:=ay w2 (w.heap.size + 1 + 1 + 1) 0 (.int .i64 E);have k4:=(kk1.block _ (aM HD4.out) ae).trans HD4.out;have k2:=(kk1.block _ (aM HD2.out) ae).trans HD2.out;have kk2:=ay (w2.setCell ⟨w.heap.size + 1 + 1 + 1,0,none⟩ (.int .i64 E)) (w.heap.size + 1 + 1 + 1 + 1) 0 (.int .i64 PC);have j4:=aS (i:=0) (u:=.int .i64 PC) k4;have j3:=(kk2.block _ (aM k3) ae).trans k3;have j2:=(kk2.block _ (aM k2) ae).trans k2;rw [hWA] at j2 j3 j4;obtain ⟨z2,z3,z4,zk⟩:=Kw (.slice none 0 0) (.slice none 0 0) (.slice none 0 0) (.slice none 0 0) (.int .i64 0) (.int .i64 E) (.int .i64 PC) j2 j3 j4 ae ae ae;refine zN (v:=.tuple #[.agg zT,.int .i64 E,.int .i64 PC]) rfl (KF (ar (below_drewN _ 1) z2) (ar (below_drewN _ 1) z3) (ar (below_drewN _ 1) z4) rfl rfl rfl) ⟨rfl,?_⟩
 exact (KA.trans ((zk.to_below KA.size (fun k hk h => ae)))).drew
end
def cs0 (R : ByteArray) (n : Nat) : Cs:=⟨[⟨⟨#[]⟩,R,⟨#[]⟩,0,0⟩],⟨#[]⟩,0,false,List.replicate n ⟨#[]⟩,fun _ => 0,0⟩
def qL (s : Cs) (j : Nat) : Cs:={ s with pc:=j }
def stA (m : MM) (lo : List Int) (xs : List Inx) (R : ByteArray) (n : Nat) : Nat → Cs
 | 0 => cs0 R n
 | j + 1 => rwS m lo (nD (qL (stA m lo xs R n j) j)) (bp (stA m lo xs R n j)) (xs.getD j dx).c (xs.getD j dx).a
def erA (m : MM) (lo : List Int) (xs : List Inx) (R : ByteArray) (n j : Nat) : Int :=
 Nt m lo (elF (opF xs) n (bp (stA m lo xs R n j)).pc.toNat) (qL (stA m lo xs R n j) j) (bp (stA m lo xs R n j)) (xs.getD j dx).c (xs.getD j dx).a (xs.getD j dx).l
theorem Ko {O : Nat → Int} {n j : Nat} {s : Cs} (h : Iv3 O n j s) (p : Nat) : Iv3 O n j (qL s p):=⟨h.len,h.sz,h.ch,h.last,h.st,h.hi,h.sh⟩
theorem NN {O : Nat → Int} {n : Nat} {R : ByteArray} (hR : R.size ≤ 8) (hn : 0 < n) : Iv3 O n 0 (cs0 R n):=by
 refine ⟨rfl,?_,?_,?_,?_,?_,?_⟩
 ·intro p hp
  simp [cs0] at hp
  subst hp
  exact ⟨(by decide : (ByteArray.mk #[]).size ≤ 8),hR,(by decide : (ByteArray.mk #[]).size + (ByteArray.mk #[]).size ≤ 256),0,rfl,hn⟩
 ·simp [cs0]
 ·show (ByteArray.mk #[]).size ≤ (ByteArray.mk #[]).size
  exact Nat.le_refl _
 ·show (ByteArray.mk #[]).size ≤ 256
  decide
 ·show 0 ≤ 256
  omega
 ·simp [cs0]
section
variable {v : Ev} {w1 w : World} {m : MM} {lo : List Int} {xs : List Inx} {R : ByteArray} {n j : Nat}
theorem wq (h : erA m lo xs R n j = 0) : rwE m lo (elF (opF xs) n (bp (stA m lo xs R n j)).pc.toNat) (nD (qL (stA m lo xs R n j) j)) (bp (stA m lo xs R n j)) (xs.getD j dx).c (xs.getD j dx).a (xs.getD j dx).l = 0:=by
 unfold erA Nt at h
 split at h
 ·cases h
 ·exact h
theorem Aa (hM : EvM v w1 m lo) (hG : Good (opF xs) n) (h0 : 0 ≤ (xs.getD j dx).c) (h1 : (xs.getD j dx).c ≤ 255) (hj : j + 1 < n) (h : Iv3 (opF xs) n j (stA m lo xs R n j)) (he : erA m lo xs R n j = 0) : Iv3 (opF xs) n (j + 1) (stA m lo xs R n (j + 1)) :=
 Mk (el:=elF (opF xs) n (bp (stA m lo xs R n j)).pc.toNat) (l:=(xs.getD j dx).l) hM (LM (Ko h j)) rfl h0 h1 rfl ae ((hG.2.1 j ae).2) (wq he)
theorem Oo (hA : EvA v w1) (hM : EvM v w1 m lo) (hn : v.n = n) (hnn : n ≤ 1000000) (hG : Good (opF xs) n) (hj : j < n) (hI : Iv3 (opF xs) n j (stA m lo xs R n j)) (h : CI v w1 w (qL (stA m lo xs R n j) j))
  (h0 : 0 ≤ (xs.getD j dx).c) (h1 : (xs.getD j dx).c ≤ 255) (hl : (xs.getD j dx).c = 9 → oo w1 (xs.getD j dx).la (xs.getD j dx).ln (xs.getD j dx).lc (xs.getD j dx).l ∧ 0 < (xs.getD j dx).ln)
  (hS : ∀ b off,(xs.getD j dx).la = some ⟨b,off,none⟩ → (xs.getD j dx).ln ≠ 0 → ¬ v.S b) (hE : RI w1 v.EL n (elF (opF xs) n)) (hES : ¬ v.S v.EL) :
  Calls Tryz.prog 61 #[.pointer (some ⟨v.C,0,none⟩),.agg #[.int .u8 (xs.getD j dx).c,.int .i64 (xs.getD j dx).a,.slice (xs.getD j dx).la (xs.getD j dx).ln (xs.getD j dx).lc]] w (iz v w1 j (erA m lo xs R n j) (stA m lo xs R n (j + 1))):=by
 by_cases hd : (qL (stA m lo xs R n j) j).dead = true ∧ (xs.getD j dx).c ≠ 5 ∧ (xs.getD j dx).c ≠ 6
 ·have e : erA m lo xs R n j = 36:=if_pos hd;rw [e];exact un hA h _ hd.1 hd.2.1 hd.2.2 _
 ·have e : erA m lo xs R n j = rwE m lo (elF (opF xs) n (bp (stA m lo xs R n j)).pc.toNat) (nD (qL (stA m lo xs R n j) j)) (bp (stA m lo xs R n j)) (xs.getD j dx).c (xs.getD j dx).a (xs.getD j dx).l:=if_neg hd;rw [e]
  have hok : Okp (opF xs) j:=fun i hi => hG.2.1 i ae
  have hk : Wk v (qL (stA m lo xs R n j) j) (stk (opF xs) j).length (bp (stA m lo xs R n j)):=(Ko hI j).wk hn hnn rfl hj (oD hok)
  have hq : (bp (stA m lo xs R n j)).pc.toNat < n:=by
   obtain ⟨q,hq,hqn⟩:=hk.op
   rw [hq]; simp; omega
  refine I5 hA hM h hk h0 h1 ?_ ?_ hl hS (hE.cell _ hq) hES ?_
  ·have:=hI.hi; exact Nat.le_trans this ae
  ·rw [hn]; exact hI.sh
  ·by_cases h2 : (qL (stA m lo xs R n j) j).dead = true
   ·by_cases h5 : (xs.getD j dx).c = 5
    ·exact .inr (.inl h5)
    ·by_cases h6 : (xs.getD j dx).c = 6
     ·exact .inr (.inr h6)
     ·exact absurd ⟨h2,h5,h6⟩ hd
   ·exact .inl tD
end
structure EvW (w : World) (m : MM) : Prop where
 pt : i5 w m.ta m.tn m.types
 tf : ∀ b off c,m.ta = some ⟨b,off,c⟩ → b < w.heap.size
 t64 : m.tn ≤ 64
 ph : pU w m.ha m.hn m.hosts
 hf : ∀ b off c,m.ha = some ⟨b,off,c⟩ → b < w.heap.size
 h32 : m.hn ≤ 32
 pg : na w m.ga m.gn m.globals
 gf : ∀ b off c,m.ga = some ⟨b,off,c⟩ → b < w.heap.size
 g64 : m.gn ≤ 64
 pf : mZ w m.fa m.fn m.fns
 ff : ∀ b off c,m.fa = some ⟨b,off,c⟩ → b < w.heap.size
 f128 : m.fn ≤ 128
 gL : ∀ x ∈ m.globals,x.1 = 119 ∨ x.1 = 108
 tL : ∀ x ∈ m.types,x.1.size ≤ 8 ∧ x.2.size ≤ 8
 hT : ∀ x ∈ m.hosts,0 ≤ x ∧ x < m.tn
 fT : ∀ x ∈ m.fns,0 ≤ x.1 ∧ x.1 < m.tn
 kinds : bf w
 pos : 0 < w.heap.size
theorem EvW.evm {w w1 : World} {m : MM} {v : Ev} {lo : List Int} (h : EvW w m) (hb : Below w.heap.size w w1) (hS : ∀ k,v.S k → w.heap.size ≤ k) (hmv : v.mv = mV m) {L lc : Nat} (hlv : v.lv = .slice (some ⟨L,0,none⟩) lo.length lc) (hL : w.heap.size ≤ L) (hLS : lo.length = 0 ∨ ¬ v.S L) (h64 : lo.length ≤ 64)
  (hsl : ∀ (j : Nat) x,lo[j]? = some x → w1.cell? ⟨L,j,none⟩ = some (.int .u8 x)) (hlL : ∀ x ∈ lo,x = 119 ∨ x = 108) : EvM v w1 m lo:=by
 have hk : Kept (fun _ => False) w w1:=aX hb
 exact ⟨hmv,h.pt.kept hk (fun _ _ _ _ => id),fun b off c e hs => by have:=h.tf b off c e; have:=hS b hs; omega,h.t64,
  h.ph.kept hk (fun _ _ _ _ => id),fun b off c e hs => by have:=h.hf b off c e; have:=hS b hs; omega,h.h32,
  h.pg.kept hk (fun _ _ _ _ => id),fun b off c e hs => by have:=h.gf b off c e; have:=hS b hs; omega,h.g64,
  h.pf.kept hk (fun _ _ _ _ => id),fun b off c e hs => by have:=h.ff b off c e; have:=hS b hs; omega,h.f128,
  ⟨_,_,_,hlv,rfl,h64,hLS.imp id fun hLS => ⟨L,0,rfl,hLS,fun j x hj => by rw [Nat.zero_add]; exact hsl j x hj⟩⟩,hlL,h.gL,h.tL,h.hT,h.fT,h.kinds.later hb h.pos,fun k hk' => by have:=hS k hk'; have:=h.pos; omega⟩
theorem Eg {w : World} {B n : Nat} (h : w.heap[B]? = some (.cells (madeCells #[Value.int .i64 0] n) 3)) (hn : n ≤ 1048576) : RI w B n (fun _ => 0):=by
 have e : (madeCells #[Value.int .i64 0] n).toList = fl n (fun _ => 0):=by
  refine (toList_madeCells_one _ _).trans ?_;exact IQ
 refine ⟨(mQ _ _).trans ae,.inr ⟨B,n,madeCells #[Value.int .i64 0] n,rfl,Nat.zero_le _,h,Nat.le_refl _,cH,(size_madeCells _ _).trans ae,?_⟩⟩
 rw [Nat.mul_one,e,List.take_of_length_le (by rw [mQ]; exact Nat.le_refl _)]
theorem EK {w : World} {B n : Nat} (h : w.heap[B]? = some (.cells (madeCells #[Value.string ⟨#[]⟩] n) 9)) (hn : n ≤ 1048576) : Row w 9 B n n ((List.replicate n (⟨#[]⟩ : ByteArray)).map Value.string):=by
 have e : (madeCells #[Value.string ⟨#[]⟩] n).toList = (List.replicate n (⟨#[]⟩ : ByteArray)).map Value.string:=by
  refine (toList_madeCells_one _ _).trans ?_
  simp
 refine ⟨au,.inr ⟨B,n,madeCells #[Value.string ⟨#[]⟩] n,rfl,Nat.zero_le _,h,Nat.le_refl _,cH,(size_madeCells _ _).trans ae,?_⟩⟩;rw [Nat.mul_one,e,List.take_of_length_le au]
theorem OD {w : World} {C SH FL O0 EN EL L lc n ln : Nat} {m : MM} {R : ByteArray}
  (hC : w.heap[C]? = some (.cells #[.slice m.ta m.tn m.tc,.slice m.ha m.hn m.hc,.slice m.ga m.gn m.gc,.int .i64 m.fi,.int .i64 m.mo,.slice m.fa m.fn m.fc,.slice m.da m.dn m.dc,.slice m.ea m.en m.ec,.slice (some ⟨L,0,none⟩) ln lc,.slice (some ⟨SH,0,none⟩) n n,.slice (some ⟨EN,0,none⟩) n n,.slice (some ⟨EL,0,none⟩) n n,.slice (some ⟨FL,0,none⟩) n n,.int .i64 0,.slice (some ⟨O0,0,none⟩) 1 1,.string ⟨#[]⟩,.int .i64 0,.bool false] 119))
  (hO : w.heap[O0]? = some (mK ⟨#[]⟩ R ⟨#[]⟩ 0 0)) (hSH : w.heap[SH]? = some (.cells (madeCells #[Value.string ⟨#[]⟩] n) 9)) (hFL : w.heap[FL]? = some (.cells (madeCells #[Value.int .i64 0] n) 3)) (hn : n ≤ 1048576) :
  CI ⟨C,SH,FL,O0,EN,EL,n,mV m,.slice (some ⟨L,0,none⟩) ln lc⟩ w w (cs0 R n):=by
 refine ⟨Kept.refl _ _,⟨O0,1,hC,⟨rfl,.inr ⟨O0,1,_,rfl,Nat.zero_le _,hO,Nat.le_refl _,cH,rfl,rfl⟩⟩,.inl rfl⟩,EK hSH hn,Eg hFL hn⟩
theorem IV {W : World} {b n c g : Nat} {l : List Int} {x : Value} (h : Seg W (some ⟨b,0,none⟩) n c l) (h2 : W.cell? ⟨g,0,none⟩ = some x) (hx : ∀ z,x ≠ .int .u8 z) : n = 0 ∨ b ≠ g:=by
 obtain ⟨h1,h2',h3,h4,h5⟩:=h
 rcases h5 with h5 | ⟨b',off,e,hc⟩
 ·exact .inl h5
 ·cases e
  by_cases h0 : n = 0
  ·exact .inl h0
  ·right;rintro rfl
   have:=hc 0 ae
   rw [Nat.add_zero,h2] at this;exact hx _ (Option.some.inj this)
theorem JM {W : World} {b n c : Nat} {l : List Int} (h : Seg W (some ⟨b,0,none⟩) n c l) (j : Nat) (x : Int) (hj : l[j]? = some x) : W.cell? ⟨b,j,none⟩ = some (.int .u8 x):=by
 obtain ⟨h1,h2',h3,h4,h5⟩:=h;have hl:=az hj
 rcases h5 with h5 | ⟨b',off,e,hc⟩
 ·omega
 ·cases e
  have:=hc j ae
  rw [Nat.zero_add,i7 hj] at this;exact this
theorem seg_lt {W : World} {b n c : Nat} {l : List Int} (h : Seg W (some ⟨b,0,none⟩) n c l) : n = 0 ∨ b < W.heap.size:=by
 obtain ⟨h1,h2',h3,h4,h5⟩:=h
 rcases h5 with h5 | ⟨b',off,e,hc⟩
 ·exact .inl h5
 ·cases e
  by_cases h0 : n = 0
  ·exact .inl h0
  ·exact .inr (block_lt_of_cell (hc 0 ae))
def KH (m : MM) (lo : List Int) (xs : List Inx) (R : ByteArray) (n : Nat) (w : World) (e : Ending) (w' : World) : Prop :=
 Below w.heap.size w w' ∧
 ((∃ j,j < n ∧ (∀ i,i < j → erA m lo xs R n i = 0) ∧ erA m lo xs R n j ≠ 0 ∧ e = .returned (.tuple #[.agg zT,.int .i64 (erA m lo xs R n j),.int .i64 j])) ∨
  ((∀ i,i < n → erA m lo xs R n i = 0) ∧ ∃ SH EN EL FL,w.heap.size ≤ SH ∧ w.heap.size ≤ EN ∧ w.heap.size ≤ EL ∧ w.heap.size ≤ FL ∧ SH ≠ FL ∧ EN ≠ EL ∧ EN ≠ FL ∧ EL ≠ FL ∧
  e = .returned (.tuple #[.agg #[.slice (some ⟨SH,0,none⟩) n n,.slice (some ⟨EN,0,none⟩) n n,.slice (some ⟨EL,0,none⟩) n n,.slice (some ⟨FL,0,none⟩) n n,.int .i64 (stA m lo xs R n n).hi],.int .i64 0,.int .i64 0]) ∧
  Row w' 9 SH n n ((stA m lo xs R n n).sh.map Value.string) ∧ RI w' EN n (enF (opF xs) n) ∧ RI w' EL n (elF (opF xs) n) ∧ RI w' FL n (stA m lo xs R n n).fl))
end Go.Proofs.YtkdldbfbldkkcaaGreatDoor
