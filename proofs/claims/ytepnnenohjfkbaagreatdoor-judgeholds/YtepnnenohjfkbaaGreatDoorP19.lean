/-
  Texts Vv Vw Wy Vz Ea Eb Vaa Vcc.
-/
import Derived.Deep.OwnRows
import Derived.Deep.RegionHeld3
import Derived.Defers
import Derived.Lib.SlBytesConst
import Derived.Recover
import Derived.Test.YtepnnenohjfkbaaGreatDoorP00
import Derived.Test.YtepnnenohjfkbaaGreatDoorP03
import Derived.Test.YtepnnenohjfkbaaGreatDoorP14
import Derived.Test.YtepnnenohjfkbaaGreatDoorP15
import Derived.Test.YtepnnenohjfkbaaGreatDoorP16
set_option linter.unusedVariables false
set_option maxRecDepth 100000
set_option maxHeartbeats 16000000
namespace Go.Proofs.YtepnnenohjfkbaaGreatDoor
open Go.RowKit
def wT : ByteArray:=⟨#[119]⟩
def nT : ByteArray:=⟨#[]⟩
def rwS (m : MM) (lo : List Int) (s : Cs) (o : Opn) (c a : Int) : Cs :=
 if c = 2 ∨ c = 3 then Rt s c nT (bE m a).1 (bE m a).2
 else if c = 4 then Rt s c wT (bE m a).1 (bE m a).2
 else if c = 5 then Sm s o
 else if c = 6 then RP s
 else if c = 7 ∨ c = 9 ∨ c = 10 ∨ c = 0 then Pz s o
 else if c = 8 then NI s wT
 else Sv (NI s (efV m lo s o c a).1) (efV m lo s o c a).2
theorem IG : ((List.range 256).all fun n => decide ((ofV (n : Int)).1.2.2.2.1.size ≤ 8) && decide ((ofV (n : Int)).1.2.2.2.2.1.size ≤ 8)) = true:=aw
theorem of_le {c : Int} (h0 : 0 ≤ c) (h1 : c ≤ 255) : (ofV c).1.2.2.2.1.size ≤ 8 ∧ (ofV c).1.2.2.2.2.1.size ≤ 8:=by
 have h:=List.all_eq_true.1 IG c.toNat oK
 rw [show ((c.toNat : Nat) : Int) = c by omega] at h
 simp only [Bool.and_eq_true,decide_eq_true_eq] at h
 exact h
section
variable {v : Ev} {w1 w : World} {s : Cs} {m : MM} {lo : List Int}
theorem A0 (c : Int) : (ltr c).size ≤ 1:=by unfold ltr; split <;> exact Nat.le_refl _
theorem M5 (c : Int) (y : ByteArray) (h : y.size ≤ 1) : (kE c y).size ≤ 1:=by unfold kE; split; exact h; exact Nat.zero_le _
end
def R9 (s : Cs) : Cs:={ s with dead:=false,sh:=s.sh.set s.pc s.st,fl:=fun i => if i = s.pc then -1 else s.fl i,hi:=max s.hi s.st.size }
section
variable {v : Ev} {w1 w : World} {s : Cs} {m : MM} {lo : List Int}
end
theorem ve (w : World) : Calls Tryz.prog 75 #[.nilIface] w fun e w' => e = .returned (.tuple #[.agg #[.int .i64 0,.int .i64 0],.bool false]) ∧ Below w.heap.size w w':=by
 have BN:=hid (aj w (qE 0 0))
 go_enter Tryz.func75,Tryz.ntmps75
 go_wp2_with fail;refine bodyPost_ret (v:=.tuple #[.agg #[.int .i64 0,.int .i64 0],.bool false]) ?_ rfl ⟨rfl,BN.out⟩;exact cZ
theorem He (x p : Int) (w : World) : Calls Tryz.prog 75 #[.iface 124 (.agg #[.int .i64 x,.int .i64 p])] w fun e w' => e = .returned (.tuple #[.agg #[.int .i64 x,.int .i64 p],.bool true]) ∧ Below w.heap.size w w':=by
 have hta : ∀ (v : Value) (w : World),(Instr.typeAssert (.iface 124 v) 20 124 true).run Tryz.prog w = .ok (.tuple #[v,.bool true]) w:=fun _ _ => rfl
 go_enter Tryz.func75,Tryz.ntmps75
 go_wp2_with fail;refine bodyPost_ret (v:=.tuple #[.agg #[.int .i64 x,.int .i64 p],.bool true]) ?_ rfl ⟨rfl,?_⟩
 ·exact cZ
 ·exact ((Below.refl _ w).alloc (Nat.le_refl _) _).alloc ak _
theorem Ck (x q : Int) (B C : Nat) (bv cv : Value) (w : World) (hb : w.cell? ⟨B,0,none⟩ = some bv) (hbf : w.frozen? ⟨B,0,none⟩ = false) (hc : w.cell? ⟨C,0,none⟩ = some cv) (hcf : w.frozen? ⟨C,0,none⟩ = false) (hBC : B ≠ C) :
  CallsD Tryz.prog 74 #[.pointer (some ⟨B,0,none⟩),.pointer (some ⟨C,0,none⟩)] (.panicking ({ v:=.iface 124 (.agg #[.int .i64 x,.int .i64 q]),recovered:=false } :: [])) w fun e u' w' =>
   e = .returned (.tuple #[]) ∧ u' = .panicking ({ v:=.iface 124 (.agg #[.int .i64 x,.int .i64 q]),recovered:=true } :: []) ∧ w'.cell? ⟨B,0,none⟩ = some (.slice none 0 0) ∧ w'.cell? ⟨C,0,none⟩ = some (.int .i64 x) ∧ Kept (fun k => k = B ∨ k = C) w w':=by
 have HC:=hid (He x q w);have hBl : B < w.heap.size:=block_lt_of_cell hb;have hCl : C < w.heap.size:=block_lt_of_cell hc
 refine callsD_of_wpS Tryz.func74 rfl fun c₀ cs hu => ?_
 apply wpS_seq
 apply wpS_region
 simp [wpOpsS,go_sem,recoverD,hu,Tryz.ntmps74,Exit.thenS]
 refine HC.out.mono ?_;rintro e w1 ⟨rfl,hb1⟩;have BN:=aj w1 (qE x q);have n0 : (w1.alloc (qE x q)).cell? ⟨w1.heap.size,0,none⟩ = some (.int .i64 x):=cP
 have y0:=(BN.cell (p:=⟨B,0,none⟩) (Nat.lt_of_lt_of_le hBl hb1.size)).trans ((hb1.cell (by exact hBl)).trans hb)
 have y1:=(BN.frozen (p:=⟨B,0,none⟩) (Nat.lt_of_lt_of_le hBl hb1.size)).trans ((hb1.frozen (by exact hBl)).trans hbf)
 have y2:=(BN.cell (p:=⟨C,0,none⟩) (Nat.lt_of_lt_of_le hCl hb1.size)).trans ((hb1.cell (by exact hCl)).trans hc)
 have y3:=(BN.frozen (p:=⟨C,0,none⟩) (Nat.lt_of_lt_of_le hCl hb1.size)).trans ((hb1.frozen (by exact hCl)).trans hcf)
 have K2:=hid ((az (S:=fun k => k = B ∨ k = C) hb1).trans (az BN))
 have hz1:=hb1.size;have hB1 : B ≠ w1.heap.size:=ae;have hC1 : C ≠ w1.heap.size:=ae
 simp [go_sem,Array.replicate]
 refine wpS_of_wp ?_;clear HC hb hbf hc hcf BN;go_wp2_with fail;generalize w1.alloc (qE x q) = W at *
 go_region_held3 (fun W => W.cell? ⟨w1.heap.size,0,none⟩ = some (.int .i64 x)) (first | assumption | (simp [go_sem]; assumption)) (first | fail)
 have z0:=World.cell?_setCell_same W ⟨B,0,none⟩ (.slice none 0 0) y0
 have z1 : (W.setCell ⟨B,0,none⟩ (.slice none 0 0)).cell? ⟨C,0,none⟩ = some cv:=by rw [World.cell?_setCell_other _ _ _ _ cH]; exact y2
 have z2:=World.cell?_setCell_same (W.setCell ⟨B,0,none⟩ (.slice none 0 0)) ⟨C,0,none⟩ (.int .i64 x) z1
 have z3 : ((W.setCell ⟨B,0,none⟩ (.slice none 0 0)).setCell ⟨C,0,none⟩ (.int .i64 x)).cell? ⟨B,0,none⟩ = some (.slice none 0 0):=by rw [World.cell?_setCell_other _ _ _ _ cH]; exact z0
 have hk:=(K2.out.then (ay W B 0 (.slice none 0 0)) (fun k _ h => .inl h)).then (ay _ C 0 (.int .i64 x)) (fun k _ h => .inr h)
 have hk2:=hk.trans (Kept.drewN _ _ 1);have HZ3:=hid z3;have HZ2:=hid z2;have HK2:=hid hk2;clear z0 z1 z2 z3 hk hk2 K2 y0 y1 y2 y3 n0 hb1;exact ⟨rfl,_,rfl,_,results_none rfl _ _ _,rfl,rfl,HZ3.out,HZ2.out,HK2.out⟩
theorem Oc (B C : Nat) (w : World) :
  CallsD Tryz.prog 74 #[.pointer (some ⟨B,0,none⟩),.pointer (some ⟨C,0,none⟩)] .returning w fun e u' w' => e = .returned (.tuple #[]) ∧ u' = .returning ∧ Below w.heap.size w w':=by
 have HC:=hid (ve w)
 refine callsD_of_wpS Tryz.func74 rfl fun c₀ cs hu => ?_
 apply wpS_seq
 apply wpS_region
 simp [wpOpsS,go_sem,recoverD,hu,Tryz.ntmps74,Exit.thenS]
 refine HC.out.mono ?_;rintro e w1 ⟨rfl,hb1⟩;have BN:=hid (je hb1 (aj w1 (qE 0 0)))
 simp [go_sem,Array.replicate]
 refine wpS_of_wp ?_;go_wp2_with fail
 cases c₀
 simp_all [bodyPostS,results,Tryz.results74]
 exact BN.out
def Sz (s : Cs) : Opn:=s.op.getD (s.op.length - 1) ⟨⟨#[]⟩,⟨#[]⟩,⟨#[]⟩,0,0⟩
theorem cf {a b : Int} (h : orE a b = 0) : a = 0 ∧ b = 0:=by
 unfold orE at h
 split at h
 ·rename_i g; exact absurd h g
 ·rename_i g; exact ⟨ae,h⟩
section
variable {v : Ev} {w1 : World} {m : MM} {lo : List Int}
end
def dF : List Int:=[70,76,71,78,1]
def cB (m : MM) : Int:=orE (dQ m) (if 65536 < (dF ++ lC m).length then 13 else 0)
theorem Far.later {w W : World} {R g : Nat} {a : Option Addr} (h : Far w R g a) (hb : Below w.heap.size w W) : Far W R g a:=fun b off c hh => ⟨(h b off c hh).1,(h b off c hh).2.1,Nat.lt_of_lt_of_le (h b off c hh).2.2 hb.size⟩
theorem MOk.later {w W : World} {R g : Nat} {m : MM} (h : MOk w R g m) (hb : Below w.heap.size w W) : MOk W R g m:=by
 have hk : Kept (fun _ => False) w W:=az hb
 refine ⟨h.pt.kept hk (fun _ _ _ _ => id),h.tf.later hb,h.ph.kept hk (fun _ _ _ _ => id),h.hf.later hb,h.hr,h.pg.kept hk (fun _ _ _ _ => id),h.gf.later hb,h.gr,h.i0,h.i1,h.o0,h.o1,h.pf.kept hk (fun _ _ _ _ => id),h.ff.later hb,fun j x hj => ?_,h.pd.kept hk (fun _ _ _ _ => id),h.df.later hb,fun j x hj => ?_,h.pe.kept hk (fun _ _ _ _ => id),h.ef.later hb,h.er⟩
 ·obtain ⟨a1,a2,a3,a4⟩:=h.fr j x hj
  refine ⟨a1,a2.kept hk (fun _ _ _ _ => id),a3.later hb,fun i y hi => ?_⟩
  obtain ⟨b1,b2,b3,b4⟩:=a4 i y hi
  exact ⟨b1,b2,b3.kept' hk (fun _ _ _ _ => id),b4.later hb⟩
 ·obtain ⟨a1,a2,a3⟩:=h.dr j x hj
  exact ⟨a1,a2.kept' hk (fun _ _ _ _ => id),a3.later hb⟩
def fS (w : World) (m : MM) : World:=((w.alloc (.cells (mV m) 29)).alloc (ik none 0 0)).alloc (.cells #[.int .i64 0] 33)
def W22 (w : World) (m : MM) : World:=((fS w m).alloc (.cells #[.int .u8 70,.int .u8 76,.int .u8 71,.int .u8 78,.int .u8 1] 5 (5,6))).alloc (.cells #[.slice (some ⟨w.heap.size + 1 + 1 + 1,0,none⟩) 5 5] 129)
theorem EG (w : World) (m : MM) : Below w.heap.size w (W22 w m) ∧ (W22 w m).heap.size = w.heap.size + 1 + 1 + 1 + 1 + 1 ∧ Wr (W22 w m) (w.heap.size + 1 + 1 + 1 + 1) (w.heap.size + 1 + 1 + 1) 5 dF ∧
  (W22 w m).heap[w.heap.size]? = some (.cells (mV m) 29) ∧ (W22 w m).cell? ⟨w.heap.size + 1,0,none⟩ = some (.slice none 0 0) ∧ (W22 w m).frozen? ⟨w.heap.size + 1,0,none⟩ = false ∧ (W22 w m).cell? ⟨w.heap.size + 1 + 1,0,none⟩ = some (.int .i64 0) ∧ (W22 w m).frozen? ⟨w.heap.size + 1 + 1,0,none⟩ = false:=by
 have za : (fS w m).heap.size = w.heap.size + 1 + 1 + 1:=by simp [fS]
 have zb : ((fS w m).alloc (.cells #[.int .u8 70,.int .u8 76,.int .u8 71,.int .u8 78,.int .u8 1] 5 (5,6))).heap.size = w.heap.size + 1 + 1 + 1 + 1:=by simp [fS]
 have B1 : Below w.heap.size w (fS w m):=(((Below.refl _ w).alloc (Nat.le_refl _) _).alloc ak _).alloc cH _;have B2:=aj (fS w m) (.cells #[.int .u8 70,.int .u8 76,.int .u8 71,.int .u8 78,.int .u8 1] 5 (5,6));have B3:=aj ((fS w m).alloc (.cells #[.int .u8 70,.int .u8 76,.int .u8 71,.int .u8 78,.int .u8 1] 5 (5,6))) (.cells #[.slice (some ⟨w.heap.size + 1 + 1 + 1,0,none⟩) 5 5] 129)
 have hb : ∀ k,k < w.heap.size + 1 + 1 + 1 → (W22 w m).heap[k]? = (fS w m).heap[k]?:=fun k hk => (B3.block k ae).trans (B2.block k ae)
 have hg:=(MapKept.heap_alloc (fS w m) (.cells #[.int .u8 70,.int .u8 76,.int .u8 71,.int .u8 78,.int .u8 1] 5 (5,6))).1;rw [za] at hg;have hg' : (W22 w m).heap[w.heap.size + 1 + 1 + 1]? = some (.cells #[.int .u8 70,.int .u8 76,.int .u8 71,.int .u8 78,.int .u8 1] 5 (5,6)):=(B3.block _ ae).trans hg;have hR:=(MapKept.heap_alloc ((fS w m).alloc (.cells #[.int .u8 70,.int .u8 76,.int .u8 71,.int .u8 78,.int .u8 1] 5 (5,6))) (.cells #[.slice (some ⟨w.heap.size + 1 + 1 + 1,0,none⟩) 5 5] 129)).1;rw [zb] at hR;have hR' : (W22 w m).heap[w.heap.size + 1 + 1 + 1 + 1]? = some (.cells #[.slice (some ⟨w.heap.size + 1 + 1 + 1,0,none⟩) 5 5] 129):=hR
 have c1 : (fS w m).heap[w.heap.size + 1]? = some (ik none 0 0):=by
  unfold fS;rw [(aj ((w.alloc (.cells (mV m) 29)).alloc (ik none 0 0)) _).block _ ak]
  have:=(MapKept.heap_alloc (w.alloc (.cells (mV m) 29)) (ik none 0 0)).1
  exact bY
 have c2 : (fS w m).heap[w.heap.size + 1 + 1]? = some (.cells #[.int .i64 0] 33):=by
  have:=(MapKept.heap_alloc ((w.alloc (.cells (mV m) 29)).alloc (ik none 0 0)) (.cells #[.int .i64 0] 33)).1
  simpa [fS] using this
 have c0 : (fS w m).heap[w.heap.size]? = some (.cells (mV m) 29):=by
  unfold fS;rw [(aj ((w.alloc (.cells (mV m) 29)).alloc (ik none 0 0)) _).block _ cH,(aj (w.alloc (.cells (mV m) 29)) _).block _ ak];exact (MapKept.heap_alloc w _).1
 refine ⟨(B1.trans (B2.mono B1.size)).trans (B3.mono ae),by simp [W22,fS],⟨?_,?_,.inr ⟨rfl,aH,?_,rfl,?_⟩,ae⟩,(hb _ ae).trans c0,?_,?_,?_,?_⟩
 ·simp [World.cell?,hR',dF]
 ·simp [World.frozen?,hR']
 ·simp [W22,fS]
 ·intro j u hj;have hl:=ax hj
  simp [dF] at hl
  simp only [World.cell?,hg']
  have : j = 0 ∨ j = 1 ∨ j = 2 ∨ j = 3 ∨ j = 4:=ae
  rcases this with rfl | rfl | rfl | rfl | rfl <;> simpa [dF] using hj
 ·have:=(hb (w.heap.size + 1) ae).trans c1
  simp [World.cell?,this]
 ·have:=(hb (w.heap.size + 1) ae).trans c1
  simp [World.frozen?,this]
 ·have:=(hb (w.heap.size + 1 + 1) ae).trans c2
  simp [World.cell?,this]
 ·have:=(hb (w.heap.size + 1 + 1) ae).trans c2
  simp [World.frozen?,this]
theorem zN (w : World) (m : MM) : (convert 64 64 (.slice (some ⟨w.heap.size + 1 + 1 + 1,0,none⟩) 5 5)).run Tryz.prog ((((w.alloc (.cells (mV m) 29)).alloc (ik none 0 0)).alloc (.cells #[.int .i64 0] 33)).alloc (.cells #[.int .u8 70,.int .u8 76,.int .u8 71,.int .u8 78,.int .u8 1] 5)) =
  .ok (.slice (some ⟨w.heap.size + 1 + 1 + 1,0,none⟩) 5 5) ((fS w m).alloc (.cells #[.int .u8 70,.int .u8 76,.int .u8 71,.int .u8 78,.int .u8 1] 5 (5,6))):=by
 have za : (fS w m).heap.size = w.heap.size + 1 + 1 + 1:=by simp [fS]
 have:=Go.Lib.run_convert_bytes_const (P:=Tryz.prog) (fS w m) 64 5 #[.int .u8 70,.int .u8 76,.int .u8 71,.int .u8 78,.int .u8 1] 5 5 Tryz.underlying64 Tryz.underlying5
 rw [za] at this;exact this
theorem QU (m : MM) (w : World) (hk : aW w) (hm : ∀ R g,w.heap.size ≤ R → w.heap.size ≤ g → MOk w R g m) :
  Calls Tryz.prog 31 #[.agg (mV m)] w fun e w' => Below w.heap.size w w' ∧ (cB m ≠ 0 → e = .returned (.tuple #[.slice none 0 0,.int .i64 (cB m)])) ∧ (cB m = 0 → ∃ a c,e = .returned (.tuple #[.slice a (dF ++ lC m).length c,.int .i64 0])):=by
 have hmf : ∀ (fn : Fn) (first cap : Array Value) (w : World),(Instr.makeFunc fn first cap).run Tryz.prog w = .ok (.func fn first cap) w:=fun _ _ _ _ => rfl
 obtain ⟨B0,z0,hwr,x0,x1,f1,x2,f2⟩:=EG w m;have HWk:=hid (PU (w.heap.size + 1 + 1 + 1 + 1) (w.heap.size + 1 + 1 + 1) 5 dF m (W22 w m) hwr aH ae ae (hk.later B0 hk.pos) ((hm _ _ ae ae).later B0));have hcv:=zN w m;have hW : ((fS w m).alloc (.cells #[.int .u8 70,.int .u8 76,.int .u8 71,.int .u8 78,.int .u8 1] 5 (5,6))).alloc (.cells #[.slice (some ⟨w.heap.size + 1 + 1 + 1,0,none⟩) 5 5] 129) = W22 w m:=rfl
 have za : ((fS w m).alloc (.cells #[.int .u8 70,.int .u8 76,.int .u8 71,.int .u8 78,.int .u8 1] 5 (5,6))).heap.size = w.heap.size + 1 + 1 + 1 + 1:=by simp [fS]
 obtain ⟨⟨m0,m1,m2,m3,m4,m5,m6,m7⟩,_⟩:=aJ x0;have BW:=hid B0;generalize W22 w m = W1 at *;generalize (fS w m).alloc (.cells #[.int .u8 70,.int .u8 76,.int .u8 71,.int .u8 78,.int .u8 1] 5 (5,6)) = W0 at *;unfold mV at hcv HWk
 show Calls Tryz.prog 31 #[.agg #[.slice m.ta m.tn m.tc,.slice m.ha m.hn m.hc,.slice m.ga m.gn m.gc,.int .i64 m.fi,.int .i64 m.mo,.slice m.fa m.fn m.fc,.slice m.da m.dn m.dc,.slice m.ea m.en m.ec]] w _
 clear hm hk B0
 go_enter_defers Tryz.func31,Tryz.ntmps31
 go_wp2_with fail;refine HWk.out.mono ?_;rintro e w9 ⟨hyes,hno⟩
 by_cases hx : dQ m = 0
 rotate_left
 ·obtain ⟨⟨p,rfl⟩,hkept⟩:=hno hx;have hcm : cB m = dQ m:=cJ hx;have y1:=hkept.cell x1 ae;have y2:=hkept.cell x2 ae;have g1:=(bX (hkept.block (w.heap.size + 1) ae ae) 0).trans f1;have g2:=(bX (hkept.block (w.heap.size + 1 + 1) ae ae) 0).trans f2;have HC:=hid (Ck (dQ m) p (w.heap.size + 1) (w.heap.size + 1 + 1) _ _ w9 y1 g1 y2 g2 ae);clear hyes hno HWk;refine leaves_cons (f:=74) (args:=#[.pointer (some ⟨w.heap.size + 1,0,none⟩),.pointer (some ⟨w.heap.size + 1 + 1,0,none⟩)]) ak cP ?_;refine HC.out.mono ?_;rintro e u' w10 ⟨rfl,rfl,q1,q2,q3⟩
  have HB : Hid (Below w.heap.size w w10):=(BW.out.trans ((hkept.to_below (B:=w.heap.size) ae (fun k hk => ae)).mono (Nat.le_refl _))).trans (q3.to_below (by have:=hkept.size; omega) (fun k hk => ae))
  refine (show Go.Leaves Tryz.prog Tryz.f31 _ _ [] FrameMode.returning w10 from ⟨.tuple #[.slice none 0 0,.int .i64 (dQ m)],?_,HB.out,fun _ => ?_,fun h0 => absurd (hcm.symm.trans h0) hx⟩)
  ·simp [results,Tryz.results31,go_sem,q1,q2]
  ·rw [hcm]
 ·obtain ⟨v,rfl,g',cap',hw9,hkept⟩:=hyes hx;have y1:=hkept.cell x1 ae;have y2:=hkept.cell x2 ae;have g1:=(bX (hkept.block (w.heap.size + 1) ae ae) 0).trans f1;have g2:=(bX (hkept.block (w.heap.size + 1 + 1) ae ae) 0).trans f2;have c9:=hw9.c0;have hK9:=hid hkept;have hz9:=hkept.size;have hcm : cB m = if 65536 < (dF ++ lC m).length then 13 else 0:=aP hx
  have HB9 : Hid (Below w.heap.size w w9):=BW.out.trans ((hkept.to_below (B:=w.heap.size) ae (fun k hk => ae)).mono (Nat.le_refl _))
  clear hyes hno HWk m0 m1 m2 m3 m4 m5 m6 m7 hwr x0 x1 x2 f1 f2 hkept;obtain ⟨E,hE⟩ : ∃ E,dF ++ lC m = E:=⟨_,rfl⟩;rw [hE] at c9 hcm hw9;have HE:=hid hE;clear hE
  by_cases hlong : 65536 < E.length
  ·have hd : decide ((E.length : Int) ≤ 65536) = false:=aG;rw [if_pos hlong] at hcm;go_wp2_with fail
   refine (ez (by first | rfl | exact hd)).mono ?_
   rintro e w9' ⟨rfl,rfl⟩;have HC:=hid (Ck 13 0 (w.heap.size + 1) (w.heap.size + 1 + 1) _ _ w9' y1 g1 y2 g2 ae);refine leaves_cons (f:=74) (args:=#[.pointer (some ⟨w.heap.size + 1,0,none⟩),.pointer (some ⟨w.heap.size + 1 + 1,0,none⟩)]) ak cP ?_;refine HC.out.mono ?_;rintro e u' w10 ⟨rfl,rfl,q1,q2,q3⟩
   have HB : Hid (Below w.heap.size w w10):=HB9.out.trans (q3.to_below ae (fun k hk => ae))
   refine (show Go.Leaves Tryz.prog Tryz.f31 _ _ [] FrameMode.returning w10 from ⟨.tuple #[.slice none 0 0,.int .i64 13],?_,HB.out,fun _ => ?_,fun h0 => by rw [hcm] at h0; cases h0⟩)
   ·simp [results,Tryz.results31,go_sem,q1,q2]
   ·rw [hcm]
  ·have hd : decide ((E.length : Int) ≤ 65536) = true:=aG;rw [if_neg hlong] at hcm;go_wp2_with fail
   refine (cr (by first | rfl | exact hd)).mono ?_
   rintro e w9' ⟨rfl,rfl⟩;go_wp2_with fail;generalize hW9 : w9'.setCell ⟨w.heap.size + 1,0,none⟩ (.slice (some ⟨g',0,none⟩) E.length cap') = Wa at *
   have k1 : Wa.cell? ⟨w.heap.size + 1,0,none⟩ = some (.slice (some ⟨g',0,none⟩) E.length cap'):=by rw [← hW9]; exact World.cell?_setCell_same _ _ _ y1
   have k2 : Wa.cell? ⟨w.heap.size + 1 + 1,0,none⟩ = some (.int .i64 0):=by rw [← hW9,World.cell?_setCell_other _ _ _ _ ak]; exact y2
   have K1 : Below w.heap.size w9' Wa:=by rw [← hW9]; exact (ay w9' (w.heap.size + 1) 0 _).to_below ae (fun k hk => ae)
   have zz : Wa.heap.size = w9'.heap.size:=by rw [← hW9]; simp [World.setCell]
   generalize hWb : Wa.setCell ⟨w.heap.size + 1 + 1,0,none⟩ (.int .i64 0) = Wb at *
   have n1 : Wb.cell? ⟨w.heap.size + 1,0,none⟩ = some (.slice (some ⟨g',0,none⟩) E.length cap'):=by rw [← hWb,World.cell?_setCell_other _ _ _ _ ak]; exact k1
   have n2 : Wb.cell? ⟨w.heap.size + 1 + 1,0,none⟩ = some (.int .i64 0):=by rw [← hWb]; exact World.cell?_setCell_same _ _ _ k2
   have K2 : Below w.heap.size Wa Wb:=by rw [← hWb]; exact (ay Wa (w.heap.size + 1 + 1) 0 _).to_below ae (fun k hk => ae)
   refine leaves_cons (f:=74) (args:=#[.pointer (some ⟨w.heap.size + 1,0,none⟩),.pointer (some ⟨w.heap.size + 1 + 1,0,none⟩)]) ak cP ?_;refine (Oc _ _ _).mono ?_;rintro e u' w10 ⟨rfl,rfl,hb10⟩
   have q1:=(hb10.cell (by exact block_lt_of_cell n1)).trans n1
   have q2:=(hb10.cell (by exact block_lt_of_cell n2)).trans n2
   have HB : Hid (Below w.heap.size w w10):=((HB9.out.trans K1).trans K2).trans (hb10.mono (by have:=K2.size; omega))
   refine (show Go.Leaves Tryz.prog Tryz.f31 _ _ [] FrameMode.returning w10 from ⟨.tuple #[.slice (some ⟨g',0,none⟩) E.length cap',.int .i64 0],?_,HB.out,fun h0 => absurd hcm h0,fun _ => ⟨some ⟨g',0,none⟩,cap',?_⟩⟩)
   ·simp [results,Tryz.results31,go_sem,q1,q2]
   ·rw [HE.out]
theorem MU (m : MM) (w : World) (hk : aW w) (hm : ∀ R g,w.heap.size ≤ R → w.heap.size ≤ g → MOk w R g m) :
  Calls Tryz.prog 11 #[.agg (mV m)] w fun e w' => e = .returned (.int .i64 (cB m)) ∧ Below w.heap.size w w':=by
 have B1:=aj w (.cells (mV m) 29)
 have HE:=hid (QU m (w.alloc (.cells (mV m) 29)) (hk.later B1 hk.pos) (fun R g h1 h2 => (hm R g (by simp at h1; omega) (by simp at h2; omega)).later B1))
 have hb:=(MapKept.heap_alloc w (.cells (mV m) 29)).1;have BW:=hid B1;obtain ⟨⟨m0,m1,m2,m3,m4,m5,m6,m7⟩,_⟩:=aJ hb;have HW : w.alloc (bD m.ta m.tn m.tc m.ha m.hn m.hc m.ga m.gn m.gc m.fi m.mo m.fa m.fn m.fc m.da m.dn m.dc m.ea m.en m.ec) = w.alloc (.cells (mV m) 29):=rfl;generalize w.alloc (.cells (mV m) 29) = W1 at *;unfold mV at HE
 show Calls Tryz.prog 11 #[.agg #[.slice m.ta m.tn m.tc,.slice m.ha m.hn m.hc,.slice m.ga m.gn m.gc,.int .i64 m.fi,.int .i64 m.mo,.slice m.fa m.fn m.fc,.slice m.da m.dn m.dc,.slice m.ea m.en m.ec]] w _
 clear hm hk B1
 go_enter Tryz.func11,Tryz.ntmps11
 go_wp2_with fail;refine HE.out.mono ?_;rintro e w2 ⟨hb2,hno,hyes⟩;have HB:=hid (je BW.out hb2)
 by_cases hx : cB m = 0
 ·obtain ⟨a,c,rfl⟩:=hyes hx;go_wp2_with fail;go_ret
  exact ⟨by rw [hx]; rfl,HB.out⟩
 ·obtain rfl:=hno hx;go_wp2_with fail;go_ret;exact ⟨rfl,HB.out⟩
section
variable {v : Ev} {w1 w : World} {s : Cs}
theorem alloc_at {w : World} {o : Obj} {b : Nat} (h : w.heap.size = b) : (w.alloc o).heap[b]? = some o:=by subst h; exact heap_alloc_new w o
end
def cs0 (R : ByteArray) (n : Nat) : Cs:=⟨[⟨⟨#[]⟩,R,⟨#[]⟩,0,0⟩],⟨#[]⟩,0,false,List.replicate n ⟨#[]⟩,fun _ => 0,0⟩
def RJ (s : Cs) (j : Nat) : Cs:={ s with pc:=j }
def stA (m : MM) (lo : List Int) (xs : List Inx) (R : ByteArray) (n : Nat) : Nat → Cs
 | 0 => cs0 R n
 | j + 1 => rwS m lo (R9 (RJ (stA m lo xs R n j) j)) (Sz (stA m lo xs R n j)) (xs.getD j dx).c (xs.getD j dx).a
section
variable {v : Ev} {w1 w : World} {m : MM} {lo : List Int} {xs : List Inx} {R : ByteArray} {n j : Nat}
end
structure EvW (w : World) (m : MM) : Prop where
 pt : eA w m.ta m.tn m.types
 tf : ∀ b off c,m.ta = some ⟨b,off,c⟩ → b < w.heap.size
 t64 : m.tn ≤ 64
 ph : iN w m.ha m.hn m.hosts
 hf : ∀ b off c,m.ha = some ⟨b,off,c⟩ → b < w.heap.size
 h32 : m.hn ≤ 32
 pg : jf w m.ga m.gn m.globals
 gf : ∀ b off c,m.ga = some ⟨b,off,c⟩ → b < w.heap.size
 g64 : m.gn ≤ 64
 pf : i7 w m.fa m.fn m.fns
 ff : ∀ b off c,m.fa = some ⟨b,off,c⟩ → b < w.heap.size
 f128 : m.fn ≤ 128
 gL : ∀ x ∈ m.globals,x.1 = 119 ∨ x.1 = 108
 tL : ∀ x ∈ m.types,x.1.size ≤ 8 ∧ x.2.size ≤ 8
 hT : ∀ x ∈ m.hosts,0 ≤ x ∧ x < m.tn
 fT : ∀ x ∈ m.fns,0 ≤ x.1 ∧ x.1 < m.tn
 kinds : aW w
 pos : 0 < w.heap.size
theorem DI {W : World} {b n c : Nat} {l : List Int} (h : Seg W (some ⟨b,0,none⟩) n c l) (j : Nat) (x : Int) (hj : l[j]? = some x) : W.cell? ⟨b,j,none⟩ = some (.int .u8 x):=by
 obtain ⟨h1,h2',h3,h4,h5⟩:=h;have hl:=ax hj
 rcases h5 with h5 | ⟨b',off,e,hc⟩
 ·omega
 ·cases e
  have:=hc j ae
  rw [Nat.zero_add,gY hj] at this;exact this
end Go.Proofs.YtepnnenohjfkbaaGreatDoor
