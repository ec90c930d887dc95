/-
  Texts Vw Wy Vy.
-/
import Derived.Deep.RegionHeld3
import Derived.Defers
import Derived.Recover
import Derived.Test.YtkdldbfbldkkcaaGreatDoorM00
import Derived.Test.YtkdldbfbldkkcaaGreatDoorM03
import Derived.Test.YtkdldbfbldkkcaaGreatDoorM36
set_option linter.unusedVariables false
set_option maxRecDepth 100000
set_option maxHeartbeats 16000000
namespace Go.Proofs.YtkdldbfbldkkcaaGreatDoor
open Go.RowKit
def nD (s : Cs) : Cs:={ s with dead:=false,sh:=s.sh.set s.pc s.st,fl:=fun i => if i = s.pc then -1 else s.fl i,hi:=max s.hi s.st.size }
def Nt (m : MM) (lo : List Int) (el : Int) (s : Cs) (o : Opn) (c a : Int) (l : List Int) : Int :=
 if s.dead = true ∧ c ≠ 5 ∧ c ≠ 6 then 36 else rwE m lo el (nD s) o c a l
section
variable {v : Ev} {w1 w : World} {s : Cs} {m : MM} {lo : List Int}
theorem Wk.vis {k : Nat} {o : Opn} (h : Wk v s k o) : Wk v (nD s) k o:=⟨⟨h.cw.len,h.cw.le,h.cw.last,h.cw.base,h.cw.big⟩,h.kk,h.pn,h.nn,h.bs,h.sz,h.op⟩
theorem un (hA : EvA v w1) (h : CI v w1 w s) {c a : Int} (L : Value) (hd : s.dead = true) (h5 : c ≠ 5) (h6 : c ≠ 6) (S' : Cs) :
  Calls Tryz.prog 61 #[.pointer (some ⟨v.C,0,none⟩),.agg #[.int .u8 c,.int .i64 a,L]] w (iz v w1 s.pc 36 S'):=by
 have BW:=aj w (aA c a L);have x0 : (w.alloc (aA c a L)).cell? ⟨w.heap.size,0,none⟩ = some (.int .u8 c):=aB;have HC:=hid (h.later hA BW);have c17:=HC.out.dead;rw [hd] at c17
 have e5 : (c == 5) = false:=by simpa using h5
 have e6 : (c == 6) = false:=by simpa using h6
 clear h BW
 go_enter Tryz.func61,Tryz.ntmps61
 go_wp2_with fail;refine (BX _ _).mono ?_;rintro e w2 ⟨rfl,rfl⟩;exact ⟨rfl,.inr ⟨ax,rfl,HC.out.bad⟩⟩
theorem I5 (hA : EvA v w1) (hM : EvM v w1 m lo) (h : CI v w1 w s) {k : Nat} {o : Opn} (hk : Wk v s k o) {c a : Int} {la : Option Addr} {ln lc : Nat} {l : List Int} {el : Int} (h0 : 0 ≤ c) (h1 : c ≤ 255) (hhi : s.hi ≤ 1000000) (hsl : s.sh.length = v.n)
  (hl : c = 9 → oo w1 la ln lc l ∧ 0 < ln) (hS : ∀ b off,la = some ⟨b,off,none⟩ → ln ≠ 0 → ¬ v.S b) (hel : w1.cell? ⟨v.EL,o.pc.toNat,none⟩ = some (.int .i64 el)) (hES : ¬ v.S v.EL) (hd : s.dead = false ∨ c = 5 ∨ c = 6) :
  Calls Tryz.prog 61 #[.pointer (some ⟨v.C,0,none⟩),.agg #[.int .u8 c,.int .i64 a,.slice la ln lc]] w (iz v w1 s.pc (rwE m lo el (nD s) o c a l) (rwS m lo (nD s) o c a)):=by
 have BW:=aj w (bG c a la ln lc);have x0 : (w.alloc (bG c a la ln lc)).cell? ⟨w.heap.size,0,none⟩ = some (.int .u8 c):=aB;have x1 : (w.alloc (bG c a la ln lc)).cell? ⟨w.heap.size,1,none⟩ = some (.int .i64 a):=aB;have x2 : (w.alloc (bG c a la ln lc)).cell? ⟨w.heap.size,2,none⟩ = some (.slice la ln lc):=aB;have HC:=hid (h.later hA BW)
 have hXl : v.C < w.heap.size ∧ v.SH < w.heap.size ∧ v.FL < w.heap.size:=by have:=hA.c; have:=hA.s; have:=hA.f; have:=h.kept.size; omega
 have HR:=hid (fun (W : World) (hW : CI v w1 W (nD s)) => MK hA hM hW hk.vis (a:=a) (la:=la) (ln:=ln) (lc:=lc) (l:=l) (el:=el) h0 h1 hl hS (hW.kept.cell hel hES))
 generalize rwE m lo el (nD s) o c a l = E at *;generalize rwS m lo (nD s) o c a = S' at *;clear h BW hl hS hel;have hX : w.heap.size ≠ v.C ∧ w.heap.size ≠ v.SH ∧ w.heap.size ≠ v.FL:=ae
 by_cases hdd : s.dead = false
 ·have c17:=HC.out.dead;rw [hdd] at c17
  go_enter Tryz.func61,Tryz.ntmps61
  go_wp2_with fail;generalize w.alloc (bG c a la ln lc) = W0 at *;exact Gd
 ·have hdt : s.dead = true:=by simpa using hdd
  rcases hd with hd | rfl | rfl
  ·exact absurd hd hdd
  ·have c17:=HC.out.dead;rw [hdt] at c17
   go_enter Tryz.func61,Tryz.ntmps61
   go_wp2_with fail;generalize w.alloc (bG 5 a la ln lc) = W0 at *;exact Gd
  ·have c17:=HC.out.dead;rw [hdt] at c17
   go_enter Tryz.func61,Tryz.ntmps61
   go_wp2_with fail;generalize w.alloc (bG 6 a la ln lc) = W0 at *;exact Gd
end
theorem tj (w : World) : Calls Tryz.prog 77 #[.nilIface] w fun e w' => e = .returned (.tuple #[.agg #[.int .i64 0,.int .i64 0],.bool false]) ∧ Below w.heap.size w w':=by
 have BN:=hid (aj w (qR 0 0))
 go_enter Tryz.func77,Tryz.ntmps77
 go_wp2_with fail;refine bodyPost_ret (v:=.tuple #[.agg #[.int .i64 0,.int .i64 0],.bool false]) ?_ rfl ⟨rfl,BN.out⟩;rw [results_cell_tmp rfl];go_simp
theorem Ib (x p : Int) (w : World) : Calls Tryz.prog 77 #[.iface 142 (.agg #[.int .i64 x,.int .i64 p])] w fun e w' => e = .returned (.tuple #[.agg #[.int .i64 x,.int .i64 p],.bool true]) ∧ Below w.heap.size w w':=by
 have hta : ∀ (v : Value) (w : World),(Instr.typeAssert (.iface 142 v) 20 142 true).run Tryz.prog w = .ok (.tuple #[v,.bool true]) w:=fun _ _ => rfl
 go_enter Tryz.func77,Tryz.ntmps77
 go_wp2_with fail;refine bodyPost_ret (v:=.tuple #[.agg #[.int .i64 x,.int .i64 p],.bool true]) ?_ rfl ⟨rfl,?_⟩
 ·rw [results_cell_tmp rfl];go_simp
 ·exact ((Below.refl _ w).alloc (Nat.le_refl _) _).alloc au _
theorem Be (x q : Int) (B C : Nat) (bv cv : Value) (w : World) (hb : w.cell? ⟨B,0,none⟩ = some bv) (hbf : w.frozen? ⟨B,0,none⟩ = false) (hc : w.cell? ⟨C,0,none⟩ = some cv) (hcf : w.frozen? ⟨C,0,none⟩ = false) (hBC : B ≠ C) :
  CallsD Tryz.prog 76 #[.pointer (some ⟨B,0,none⟩),.pointer (some ⟨C,0,none⟩)] (.panicking ({ v:=.iface 142 (.agg #[.int .i64 x,.int .i64 q]),recovered:=false } :: [])) w fun e u' w' =>
   e = .returned (.tuple #[]) ∧ u' = .panicking ({ v:=.iface 142 (.agg #[.int .i64 x,.int .i64 q]),recovered:=true } :: []) ∧ w'.cell? ⟨B,0,none⟩ = some (.slice none 0 0) ∧ w'.cell? ⟨C,0,none⟩ = some (.int .i64 x) ∧ Kept (fun k => k = B ∨ k = C) w w':=by
 have HC:=hid (Ib x q w);have hBl : B < w.heap.size:=block_lt_of_cell hb;have hCl : C < w.heap.size:=block_lt_of_cell hc
 refine callsD_of_wpS Tryz.func76 rfl fun c₀ cs hu => ?_
 apply wpS_seq
 apply wpS_region
 simp [wpOpsS,go_sem,recoverD,hu,Tryz.ntmps76,Exit.thenS]
 refine HC.out.mono ?_;rintro e w1 ⟨rfl,hb1⟩;have BN:=aj w1 (qR x q);have n0 : (w1.alloc (qR x q)).cell? ⟨w1.heap.size,0,none⟩ = some (.int .i64 x):=aB
 have y0:=(BN.cell (p:=⟨B,0,none⟩) (Nat.lt_of_lt_of_le hBl hb1.size)).trans ((hb1.cell (by exact hBl)).trans hb)
 have y1:=(BN.frozen (p:=⟨B,0,none⟩) (Nat.lt_of_lt_of_le hBl hb1.size)).trans ((hb1.frozen (by exact hBl)).trans hbf)
 have y2:=(BN.cell (p:=⟨C,0,none⟩) (Nat.lt_of_lt_of_le hCl hb1.size)).trans ((hb1.cell (by exact hCl)).trans hc)
 have y3:=(BN.frozen (p:=⟨C,0,none⟩) (Nat.lt_of_lt_of_le hCl hb1.size)).trans ((hb1.frozen (by exact hCl)).trans hcf)
 have K2:=hid ((aX (S:=fun k => k = B ∨ k = C) hb1).trans (aX BN))
 have hz1:=hb1.size;have hB1 : B ≠ w1.heap.size:=ae;have hC1 : C ≠ w1.heap.size:=ae
 simp [go_sem,Array.replicate]
 refine wpS_of_wp ?_;clear HC hb hbf hc hcf BN;go_wp2_with fail;generalize w1.alloc (qR x q) = W at *
 go_region_held3 (fun W => W.cell? ⟨w1.heap.size,0,none⟩ = some (.int .i64 x)) (first | assumption | (simp [go_sem]; assumption)) (first | fail)
 have z0:=World.cell?_setCell_same W ⟨B,0,none⟩ (.slice none 0 0) y0
 have z1 : (W.setCell ⟨B,0,none⟩ (.slice none 0 0)).cell? ⟨C,0,none⟩ = some cv:=by rw [World.cell?_setCell_other _ _ _ _ cE]; exact y2
 have z2:=World.cell?_setCell_same (W.setCell ⟨B,0,none⟩ (.slice none 0 0)) ⟨C,0,none⟩ (.int .i64 x) z1
 have z3 : ((W.setCell ⟨B,0,none⟩ (.slice none 0 0)).setCell ⟨C,0,none⟩ (.int .i64 x)).cell? ⟨B,0,none⟩ = some (.slice none 0 0):=by rw [World.cell?_setCell_other _ _ _ _ cE]; exact z0
 have hk:=(K2.out.then (ay W B 0 (.slice none 0 0)) (fun k _ h => .inl h)).then (ay _ C 0 (.int .i64 x)) (fun k _ h => .inr h)
 have hk2:=hk.trans (Kept.drewN _ _ 1);have HZ3:=hid z3;have HZ2:=hid z2;have HK2:=hid hk2;clear z0 z1 z2 z3 hk hk2 K2 y0 y1 y2 y3 n0 hb1;exact ⟨rfl,_,rfl,_,results_none rfl _ _ _,rfl,rfl,HZ3.out,HZ2.out,HK2.out⟩
theorem LH (B C : Nat) (w : World) :
  CallsD Tryz.prog 76 #[.pointer (some ⟨B,0,none⟩),.pointer (some ⟨C,0,none⟩)] .returning w fun e u' w' => e = .returned (.tuple #[]) ∧ u' = .returning ∧ Below w.heap.size w w':=by
 have HC:=hid (tj w)
 refine callsD_of_wpS Tryz.func76 rfl fun c₀ cs hu => ?_
 apply wpS_seq
 apply wpS_region
 simp [wpOpsS,go_sem,recoverD,hu,Tryz.ntmps76,Exit.thenS]
 refine HC.out.mono ?_;rintro e w1 ⟨rfl,hb1⟩;have BN:=hid (i9 hb1 (aj w1 (qR 0 0)))
 simp [go_sem,Array.replicate]
 refine wpS_of_wp ?_;go_wp2_with fail
 cases c₀
 simp_all [bodyPostS,results,Tryz.results76]
 exact BN.out
section
variable {w : World}
theorem uQ : Calls Tryz.prog 60 #[.nilIface] w fun e w' => e = .returned (.int .i64 0) ∧ Below w.heap.size w w':=by
 exact BH
theorem EF (x : Int) : Calls Tryz.prog 60 #[.iface 39 (.int .i64 x)] w fun e w' => e = .returned (.int .i64 x) ∧ Below w.heap.size w w':=by
 have hta : ∀ (v : Value) (w : World),(Instr.typeAssert (.iface 39 v) 20 39 true).run Tryz.prog w = .ok (.tuple #[v,.bool true]) w:=fun _ _ => rfl
 exact BH
abbrev zT : Array Value:=#[.slice none 0 0,.slice none 0 0,.slice none 0 0,.slice none 0 0,.int .i64 0]
theorem Jd (x : Int) (hx : x ≠ 0) {CB TB EB PB C : Nat} {t0 t1 t2 t3 t4 : Value} {ev pv : Value} {pc : Int} (hC : w.cell? ⟨CB,0,none⟩ = some (.pointer (some ⟨C,0,none⟩))) (hp : w.cell? ⟨C,16,none⟩ = some (.int .i64 pc))
  (hT : w.heap[TB]? = some (.cells #[t0,t1,t2,t3,t4] 86)) (hE : w.heap[EB]? = some (.cells #[ev] 39)) (hP : w.heap[PB]? = some (.cells #[pv] 3)) (n1 : TB ≠ EB) (n2 : TB ≠ PB) (n3 : EB ≠ PB) (m1 : CB ≠ TB) (m2 : CB ≠ EB) (m3 : CB ≠ PB) (k1 : C ≠ TB) (k2 : C ≠ EB) (k3 : C ≠ PB) :
  CallsD Tryz.prog 59 #[.pointer (some ⟨CB,0,none⟩),.pointer (some ⟨TB,0,none⟩),.pointer (some ⟨EB,0,none⟩),.pointer (some ⟨PB,0,none⟩)] (.panicking ({ v:=.iface 39 (.int .i64 x),recovered:=false } :: [])) w fun e u' w' =>
   e = .returned (.tuple #[]) ∧ u' = .panicking ({ v:=.iface 39 (.int .i64 x),recovered:=true } :: []) ∧ w'.heap[TB]? = some (.cells zT 86) ∧ w'.cell? ⟨EB,0,none⟩ = some (.int .i64 x) ∧ w'.cell? ⟨PB,0,none⟩ = some (.int .i64 pc) ∧ Kept (fun k => k = TB ∨ k = EB ∨ k = PB) w w':=by
 have HC:=hid (EF (w:=w) x)
 refine callsD_of_wpS Tryz.func59 rfl fun c₀ cs hu => ?_
 apply wpS_seq
 apply wpS_region
 simp [wpOpsS,go_sem,recoverD,hu,Tryz.ntmps59,Exit.thenS]
 refine HC.out.mono ?_;rintro e w1 ⟨rfl,hb1⟩;have hx' : (x == 0) = false:=pE
 simp [go_sem,Array.replicate]
 refine wpS_of_wp ?_;have q0:=ag hb1 hC;have q1:=ag hb1 hp;have bT:=ar hb1 hT;have bE:=ar hb1 hE;have bP:=ar hb1 hP;have a0 : w1.cell? ⟨TB,0,none⟩ = some t0:=ai bT;have a1 : w1.cell? ⟨TB,1,none⟩ = some t1:=ai bT;have a2 : w1.cell? ⟨TB,2,none⟩ = some t2:=ai bT;have a3 : w1.cell? ⟨TB,3,none⟩ = some t3:=ai bT;have a4 : w1.cell? ⟨TB,4,none⟩ = some t4:=ai bT;have f0 : w1.frozen? ⟨TB,0,none⟩ = false:=free_at bT;have f1 : w1.frozen? ⟨TB,1,none⟩ = false:=free_at bT;have f2 : w1.frozen? ⟨TB,2,none⟩ = false:=free_at bT;have f3 : w1.frozen? ⟨TB,3,none⟩ = false:=free_at bT;have f4 : w1.frozen? ⟨TB,4,none⟩ = false:=free_at bT;have e0 : w1.cell? ⟨EB,0,none⟩ = some ev:=ai bE;have fe : w1.frozen? ⟨EB,0,none⟩ = false:=free_at bE;have p0 : w1.cell? ⟨PB,0,none⟩ = some pv:=ai bP;have fp : w1.frozen? ⟨PB,0,none⟩ = false:=free_at bP;have HB1:=hid hb1;have HQ:=hid (And.intro bT (And.intro bE bP));clear hC hp hT hE hP HC hb1 bT bE bP;go_wp2_with fail;obtain ⟨bT,bE,bP⟩:=HQ.out;have s4:=aS (i:=4) (u:=.int .i64 0) (aS (i:=3) (u:=.slice none 0 0) (aS (i:=2) (u:=.slice none 0 0) (aS (i:=1) (u:=.slice none 0 0) (aS (i:=0) (u:=.slice none 0 0) bT))));have K1:=(((((ay w1 TB 0 (.slice none 0 0)).trans (ay _ TB 1 (.slice none 0 0))).trans (ay _ TB 2 (.slice none 0 0))).trans (ay _ TB 3 (.slice none 0 0))).trans (ay _ TB 4 (.int .i64 0)))
 have e4:=(K1.block EB (aM bE) (fun e => n1 e.symm)).trans bE
 have p4:=(K1.block PB (aM bP) (fun e => n2 e.symm)).trans bP
 generalize ((((w1.setCell ⟨TB,0,none⟩ (.slice none 0 0)).setCell ⟨TB,1,none⟩ (.slice none 0 0)).setCell ⟨TB,2,none⟩ (.slice none 0 0)).setCell ⟨TB,3,none⟩ (.slice none 0 0)).setCell ⟨TB,4,none⟩ (.int .i64 0) = W5 at *;have KE:=ay W5 EB 0 (.int .i64 x);have KP:=ay (W5.setCell ⟨EB,0,none⟩ (.int .i64 x)) PB 0 (.int .i64 pc);have e5:=aS (i:=0) (u:=.int .i64 x) e4
 have p5:=(KE.block PB (aM p4) (fun e => n3 e.symm)).trans p4
 have t5:=(KE.block TB (aM s4) (fun e => n1 e)).trans s4
 have p6:=aS (i:=0) (u:=.int .i64 pc) p5
 have e6:=(KP.block EB (aM e5) (fun e => n3 e)).trans e5
 have t6:=(KP.block TB (aM t5) (fun e => n2 e)).trans t5
 have hk:=((((aX (S:=fun k => k = TB ∨ k = EB ∨ k = PB) HB1.out).then K1 (fun k _ h => .inl h)).then KE (fun k _ h => .inr (.inl h))).then KP (fun k _ h => .inr (.inr h)))
 exact ⟨rfl,_,rfl,_,results_none rfl _ _ _,rfl,rfl,t6,ai e6,ai p6,hk⟩
theorem Mm {CB TB EB PB : Nat} :
  CallsD Tryz.prog 59 #[.pointer (some ⟨CB,0,none⟩),.pointer (some ⟨TB,0,none⟩),.pointer (some ⟨EB,0,none⟩),.pointer (some ⟨PB,0,none⟩)] .returning w fun e u' w' => e = .returned (.tuple #[]) ∧ u' = .returning ∧ Below w.heap.size w w':=by
 have HC:=hid (uQ (w:=w))
 refine callsD_of_wpS Tryz.func59 rfl fun c₀ cs hu => ?_
 apply wpS_seq
 apply wpS_region
 simp [wpOpsS,go_sem,recoverD,hu,Tryz.ntmps59,Exit.thenS]
 refine HC.out.mono ?_;rintro e w1 ⟨rfl,hb1⟩;have BN:=hid hb1
 simp [go_sem,Array.replicate]
 refine wpS_of_wp ?_;go_wp2_with fail
 cases c₀
 simp_all [bodyPostS,results,Tryz.results59]
end
end Go.Proofs.YtkdldbfbldkkcaaGreatDoor
