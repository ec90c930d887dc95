/-
  Texts Walk Map Ea Eb.
-/
import Derived.BigQuiet
import Derived.Deep.QuietTactic
import Derived.Lib.SlBytesConst
import Derived.WalkMore
import Derived.Test.YtkdldbfbldkkcaaGreatDoorM00
import Derived.Test.YtkdldbfbldkkcaaGreatDoorM29
import Derived.Test.YtkdldbfbldkkcaaGreatDoorM37
import Derived.Test.YtkdldbfbldkkcaaGreatDoorM38
set_option linter.unusedVariables false
set_option maxRecDepth 100000
set_option maxHeartbeats 16000000
namespace Go.Proofs.YtkdldbfbldkkcaaGreatDoor
open Go.RowKit
structure WSt (O : Nat → Int) (A B C n : Nat) (w1 : World) (k : Nat) (wr : World) : Prop where
 ok : Okp O k
 rest : res O (n - k) k = res O n 0
 en : RI wr A n (enF O k)
 el : RI wr B n (elF O k)
 ow : RI wr C n (owF O k)
 kept : Kept (fun k => k = A ∨ k = B ∨ k = C) w1 wr
theorem GM {O : Nat → Int} {k : Nat} (h : Okp O k) (he : er O k = 0) (hb : ¬ (O k = 6 ∧ stk O k = [])) : Okp O (k + 1):=fun i hi => by
 by_cases e : i = k
 ·subst e; exact ⟨he,hb⟩
 ·exact h i ae
theorem WSt.go {O : Nat → Int} {A B C n : Nat} {w1 wr wr' : World} {k : Nat} (h : WSt O A B C n w1 k wr) (hlt : k < n) (he : er O k = 0) (hb : ¬ (O k = 6 ∧ stk O k = []))
  (en : RI wr' A n (enF O (k + 1))) (el : RI wr' B n (elF O (k + 1))) (ow : RI wr' C n (owF O (k + 1))) (kp : Kept (fun k => k = A ∨ k = B ∨ k = C) wr wr') : WSt O A B C n w1 (k + 1) wr' :=
 ⟨GM h.ok he hb,(vL hlt he hb).symm.trans h.rest,en,el,ow,h.kept.trans kp⟩
structure Mid (O : Nat → Int) (A B C n : Nat) (k : Nat) (wr wr3 : World) : Prop where
 en : RI wr3 A n (enF O k)
 el : RI wr3 B n (elF O k)
 ow : RI wr3 C n (owF O (k + 1))
 kept : Kept (fun k => k = A ∨ k = B ∨ k = C) wr wr3
theorem WSt.mid {O : Nat → Int} {A B C n : Nat} {w1 wr : World} {k : Nat} (h : WSt O A B C n w1 k wr) (hAC : A ≠ C) (hBC : B ≠ C) (ob : Obj) : Mid O A B C n k wr ((wr.alloc ob).setCell ⟨C,k,none⟩ (.int .i64 (top (stk O k)))):=by
 have kf:=Kept.alloc (fun _ => False) wr ob
 have p:=(h.ow.kept kf (fun x => x)).put (g:=owF O (k + 1)) k (top (stk O k)) (fun i hi => GP O k i)
 exact ⟨(h.en.kept kf (fun x => x)).kept p.2 hAC,(h.el.kept kf (fun x => x)).kept p.2 hBC,p.1,(Kept.alloc _ wr ob).trans (p.2.mono (fun k hk => .inr (.inr hk)))⟩
theorem walk_in (A B C b off n cap : Nat) (xs : List Inx) (w : World) (hn : n ≤ 1048576) (hcap : n ≤ cap) (hn0 : 0 < n) (hc : Cod w b off n xs) (hAB : A ≠ B) (hAC : A ≠ C) (hBC : B ≠ C) (hbA : b ≠ A) (hbB : b ≠ B) (hbC : b ≠ C)
  (hA : RI w A n (fun _ => -1)) (hB : RI w B n (fun _ => -1)) (hC : RI w C n (fun _ => -1)) :
  Calls Tryz.prog 81 #[mf A B C n,.slice (some ⟨b,off,none⟩) n cap] w fun e w' => e = .returned (.tuple #[.int .i64 (res (opF xs) n 0).1,.int .i64 (res (opF xs) n 0).2]) ∧
   ((res (opF xs) n 0).1 = 0 → RI w' A n (enF (opF xs) n) ∧ RI w' B n (elF (opF xs) n) ∧ RI w' C n (owF (opF xs) n)) ∧ Kept (fun k => k = A ∨ k = B ∨ k = C) w w':=by
 unfold mf;obtain ⟨o,ho⟩ : ∃ o,o = Obj.cells #[Value.slice (some ⟨A,0,none⟩) n n,.slice (some ⟨B,0,none⟩) n n,.slice (some ⟨C,0,none⟩) n n] 152:=⟨_,rfl⟩
 have kw:=Kept.alloc (fun k => k = A ∨ k = B ∨ k = C) w o
 have kf:=Kept.alloc (fun _ => False) w o
 have hst : WSt (opF xs) A B C n (w.alloc o) 0 (w.alloc o):=⟨fun i hi => absurd hi ae,rfl,(hA.kept kf (fun x => x)).congr (fun _ _ => rfl),(hB.kept kf (fun x => x)).congr (fun _ _ => rfl),(hC.kept kf (fun x => x)).congr (fun _ _ => rfl),Kept.refl _ _⟩
 have hp0 : (w.alloc o).cell? ⟨w.heap.size,0,none⟩ = some (.slice (some ⟨A,0,none⟩) n n):=pH;have hp1 : (w.alloc o).cell? ⟨w.heap.size,1,none⟩ = some (.slice (some ⟨B,0,none⟩) n n):=pH;have hp2 : (w.alloc o).cell? ⟨w.heap.size,2,none⟩ = some (.slice (some ⟨C,0,none⟩) n n):=pH;have hAl:=hA.lt;have hBl:=hB.lt;have hCl:=hC.lt;have nP : ¬ (w.heap.size = A ∨ w.heap.size = B ∨ w.heap.size = C):=ae;have nb : ¬ (b = A ∨ b = B ∨ b = C):=ae;have HST:=hid hst;have HP0:=hid hp0;have HP1:=hid hp1;have HP2:=hid hp2;have HC:=hid hc;have HKW:=hid kw;have HKF:=hid kf;obtain ⟨P,hP⟩ : ∃ P,P = w.heap.size:=⟨_,rfl⟩;clear hA hB hC hst hp0 hp1 hp2 hc kw kf hAl hBl hCl;subst ho
 go_enter Tryz.func81,Tryz.ntmps81
 go_wp2_with fail
 go_step3
 go_wp2_with fail
 go_step3
 go_wp2_with fail;generalize hw1 : w.alloc (Obj.cells #[Value.slice (some ⟨A,0,none⟩) n n,.slice (some ⟨B,0,none⟩) n n,.slice (some ⟨C,0,none⟩) n n] 152) = w1 at *
 go_loopw [6,7,8,13] (fun o d z i wr => ∃ k : Nat,k ≤ n ∧ o = .int .i64 (top (stk (opF xs) k)) ∧ d = .int .i64 (stk (opF xs) k).length ∧ z = .int .i64 0 ∧ i = .int .i64 k ∧ WSt (opF xs) A B C n w1 k wr) (fun _ _ _ i _ => n - (intOf i).toNat)
 case atStart => exact ⟨0,ae,rfl,rfl,rfl,rfl,HST.out⟩
 case round =>
  obtain ⟨k,hk,rfl,rfl,rfl,rfl,hst⟩:=hrel
  by_cases hlt : k < n
  ·have g0 : wr.cell? ⟨b,off + k * 3,none⟩ = some (.int .u8 (opF xs k)):=hst.kept.cell (HKF.out.cell (HC.out.op hlt) (fun x => x)) nb
   have hcr:=HC.out.range hlt
   obtain ⟨av,g1⟩ : ∃ av,wr.cell? ⟨b,off + k * 3 + 1,none⟩ = some (.int .i64 av):=⟨_,hst.kept.cell (HKF.out.cell (HC.out.num hlt) (fun x => x)) nb⟩
   obtain ⟨la,ln,lc,g2⟩ : ∃ la ln lc,wr.cell? ⟨b,off + k * 3 + 2,none⟩ = some (.slice la ln lc):=⟨_,_,_,hst.kept.cell (HKF.out.cell (HC.out.lab hlt) (fun x => x)) nb⟩
   obtain ⟨c,hcO⟩ : ∃ c,opF xs k = c:=⟨_,rfl⟩;rw [hcO] at g0 hcr;obtain ⟨ob,hob⟩ : ∃ ob,ob = Obj.cells #[Value.int .u8 c,.int .i64 av,.slice la ln lc] 82:=⟨_,rfl⟩;have hmid:=hst.mid hAC hBC ob
   have kf2:=Kept.alloc (fun _ => False) wr ob
   have hlw : w.heap.size < wr.heap.size:=by
    have h1:=hst.kept.size;have h2:=block_lt_of_cell HP0.out
    simp only at h2
    omega
   have q2 : (wr.alloc ob).cell? ⟨w.heap.size,2,none⟩ = some (.slice (some ⟨C,0,none⟩) n n):=kf2.cell (hst.kept.cell HP2.out nP) (fun x => x)
   have c2 : (wr.alloc ob).cell? ⟨C,k,none⟩ = some (.int .i64 (owF (opF xs) k k)):=(hst.ow.kept kf2 (fun x => x)).cell k hlt
   have f2 : (wr.alloc ob).frozen? ⟨C,k,none⟩ = false:=(hst.ow.kept kf2 (fun x => x)).free k
   have nC : ¬ C = w.heap.size:=ae
   have nCw : ¬ C = wr.heap.size:=by have:=hst.ow.lt; omega
   have x0 : ((wr.alloc ob).setCell ⟨C,k,none⟩ (.int .i64 (top (stk (opF xs) k)))).cell? ⟨wr.heap.size,0,none⟩ = some (.int .u8 c):=by
    rw [World.cell?_setCell_other _ _ _ _ (fun e => nCw (by injection e)),hob,World.cell?_alloc_new]; rfl
   have r0 : ((wr.alloc ob).setCell ⟨C,k,none⟩ (.int .i64 (top (stk (opF xs) k)))).cell? ⟨w.heap.size,0,none⟩ = some (.slice (some ⟨A,0,none⟩) n n):=hmid.kept.cell (hst.kept.cell HP0.out nP) nP;have r1 : ((wr.alloc ob).setCell ⟨C,k,none⟩ (.int .i64 (top (stk (opF xs) k)))).cell? ⟨w.heap.size,1,none⟩ = some (.slice (some ⟨B,0,none⟩) n n):=hmid.kept.cell (hst.kept.cell HP1.out nP) nP;have r2 : ((wr.alloc ob).setCell ⟨C,k,none⟩ (.int .i64 (top (stk (opF xs) k)))).cell? ⟨w.heap.size,2,none⟩ = some (.slice (some ⟨C,0,none⟩) n n):=hmid.kept.cell (hst.kept.cell HP2.out nP) nP;have HM:=hid hmid;have HT:=hid hst;clear hmid hst kf2
   by_cases hO : isO c = true
   ·have ho5:=mn hO
    by_cases hd : (stk (opF xs) k).length = 32
    ·have her : er (opF xs) k = 35:=by unfold er; rw [hcO,if_pos hO,if_pos hd]
     have hres : res (opF xs) n 0 = (35,(k : Int)):=by rw [← HT.out.rest,uK hlt (by rw [her]; decide),her]
     have HR:=hid hres
     have hdb : (((stk (opF xs) k).length : Int) == 32) = true:=by rw [hd]; rfl
     rw [gH] at hO;subst hob;clear hres her hd;generalize (stk (opF xs) k).length = dl at *;generalize top (stk (opF xs) k) = tp at *
     rcases hO with rfl | rfl | rfl
     all_goals
      go_wp2_with fail
      try rw [Exit.noGoto_ret]
      go_ret2;rw [HR.out];exact BG
    ·have her : er (opF xs) k = 0:=by unfold er; rw [hcO,if_pos hO,if_neg hd]
     have hO' : isO (opF xs k) = true:=by rw [hcO]; exact hO
     have hNX:=HT.out.go hlt her (fun x => ho5.2 (hcO.symm.trans x.1)) (HM.out.en.congr (fun i _ => iN (by rw [hcO]; exact ho5.2))) (HM.out.el.congr (fun i _ => iJ (by rw [hcO]; exact ho5.1))) HM.out.ow HM.out.kept
     have HNX:=hid hNX;have hlen:=oD HT.out.ok;have HSK:=hid (jA hO');have hdb : (((stk (opF xs) k).length : Int) == 32) = false:=aI
     have HDL:=hid (show (stk (opF xs) k).length + 1 = (stk (opF xs) (k + 1)).length by rw [jA hO']; rfl)
     rw [gH] at hO;subst hob;clear hNX her hd hO';generalize (stk (opF xs) k).length = dl at *;generalize top (stk (opF xs) k) = tp at *
     rcases hO with rfl | rfl | rfl
     all_goals
      go_wp2_with fail;refine ⟨⟨k + 1,ae,?_,?_,rfl,bU,HNX.out⟩,cC⟩
      ·rw [HSK.out]; rfl
      ·rw [← HDL.out]; go_num
   have hO2:=Kb (by simpa using hO)
   have hOf : isO (opF xs k) = false:=by rw [hcO]; simpa using hO
   obtain ⟨no2,no3,no4⟩:=hO2
   have b2 : (c == 2) = false:=by simpa using no2
   have b3 : (c == 3) = false:=by simpa using no3
   have b4 : (c == 4) = false:=by simpa using no4
   by_cases h5 : c = 5
   ·have hO5 : opF xs k = 5:=hcO.trans h5
    rcases iP (opF xs) k with hs | ⟨t,ht,hOt,hs⟩
    ·have her : er (opF xs) k = 37:=by unfold er; rw [if_neg ug,if_pos hO5,hs]
     have hres : res (opF xs) n 0 = (37,(k : Int)):=by rw [← HT.out.rest,uK hlt (by rw [her]; decide),her]
     have HR:=hid hres;have htp : top (stk (opF xs) k) = -1:=qh;subst hob;subst h5;clear hres her hs;generalize (stk (opF xs) k).length = dl at *;rw [htp] at x0 r0 r1 r2 HM ⊢;exact yu
    ·have htp : top (stk (opF xs) k) = (t : Int):=qh;have htn : t < n:=ae
     have hct : ((wr.alloc ob).setCell ⟨C,k,none⟩ (.int .i64 (top (stk (opF xs) k)))).cell? ⟨b,off + t * 3,none⟩ = some (.int .u8 (opF xs t)):=HM.out.kept.cell (HT.out.kept.cell (HKF.out.cell (HC.out.op htn) (fun x => x)) nb) nb
     have het : ((wr.alloc ob).setCell ⟨C,k,none⟩ (.int .i64 (top (stk (opF xs) k)))).cell? ⟨B,t,none⟩ = some (.int .i64 (elF (opF xs) k t)):=HM.out.el.cell t htn;have hft : ((wr.alloc ob).setCell ⟨C,k,none⟩ (.int .i64 (top (stk (opF xs) k)))).frozen? ⟨B,t,none⟩ = false:=HM.out.el.free t
     have hern : ¬ (opF xs t = 4 ∧ elF (opF xs) k t = -1) → res (opF xs) n 0 = (37,(k : Int)):=fun hx => by
      have her : er (opF xs) k = 37:=by unfold er; rw [if_neg ug,if_pos hO5,hs]; simp only; rw [if_neg hx]
      rw [← HT.out.rest,uK hlt (by rw [her]; decide),her]
     have tb : ((t : Int) == -1) = false:=au;rw [htp] at x0 r0 r1 r2 HM hct het hft ⊢
     by_cases h4 : opF xs t = 4
     ·rw [h4] at hct
      by_cases hel : elF (opF xs) k t = -1
      ·rw [hel] at het
       have her : er (opF xs) k = 0:=by unfold er; rw [if_neg ug,if_pos hO5,hs]; simp only; rw [if_pos ⟨h4,hel⟩]
       have PB:=HM.out.el.put (g:=elF (opF xs) (k + 1)) t k (fun i hi => vY hO5 hs i)
       have hNX:=HT.out.go hlt her (fun x => by have:=x.1; omega) ((HM.out.en.congr (fun i _ => iN ae)).kept PB.2 hAB) PB.1 (HM.out.ow.kept PB.2 (fun x => hBC x.symm)) (HM.out.kept.trans (PB.2.mono (fun k hk => .inr (.inl hk))))
       have HNX:=hid hNX;have HSK:=hid (iQ hOf ae);have HTP:=hid htp;subst hob;subst h5;clear hNX her PB hel h4 hern hs htp;generalize hdl : (stk (opF xs) k).length = dl at *;go_wp2_with fail;refine ⟨⟨k + 1,ae,?_,?_,rfl,bU,HNX.out⟩,cC⟩
       ·rw [HSK.out,HTP.out]
       ·rw [HSK.out,hdl]
      ·have HR:=hid (hern (fun x => hel x.2))
       have eb : (elF (opF xs) k t == -1) = false:=by simpa using hel
       have ebn : (elF (opF xs) k t != -1) = true:=by simpa using hel
       subst hob;subst h5;clear hern hs htp h4 hel;generalize (stk (opF xs) k).length = dl at *;generalize elF (opF xs) k t = ev at *;exact yu
     ·have HR:=hid (hern (fun x => h4 x.1))
      have eb : (opF xs t == 4) = false:=sk;have ebn : (opF xs t != 4) = true:=sk;have hrt:=HC.out.range htn;subst hob;subst h5;clear hern hs htp h4;generalize (stk (opF xs) k).length = dl at *;generalize opF xs t = ct at *;exact yu
   have b5 : (c == 5) = false:=by simpa using h5
   have her : er (opF xs) k = 0:=by unfold er; rw [if_neg ug,if_neg (by rw [hcO]; exact h5)]
   by_cases h6 : c = 6
   ·have hO6 : opF xs k = 6:=hcO.trans h6
    rcases iP (opF xs) k with hs | ⟨t,ht,hOt,hs⟩
    ·have hres:=(HT.out.rest).symm.trans (vM hlt her ⟨hO6,hs⟩);have htp : top (stk (opF xs) k) = -1:=qh;have hfin : RI ((wr.alloc ob).setCell ⟨C,k,none⟩ (.int .i64 (top (stk (opF xs) k)))) A n (enF (opF xs) (k + 1)) ∧ RI ((wr.alloc ob).setCell ⟨C,k,none⟩ (.int .i64 (top (stk (opF xs) k)))) B n (elF (opF xs) (k + 1)) ∧ RI ((wr.alloc ob).setCell ⟨C,k,none⟩ (.int .i64 (top (stk (opF xs) k)))) C n (owF (opF xs) (k + 1)) :=
      ⟨HM.out.en.congr (fun i _ => FP hs i),HM.out.el.congr (fun i _ => Fq hs i),HM.out.ow⟩
     have HF:=hid hfin;have HR:=hid hres;have kb : ((k : Int) + 1 == 0) = false:=aI;subst hob;subst h6;clear hres her hs hfin;generalize (stk (opF xs) k).length = dl at *;rw [htp] at x0 r0 r1 r2 HM HF ⊢
     by_cases hl : k + 1 = n
     ·have hl1 : ¬ (k : Int) + 1 < (n : Int):=ae;go_wp2_with fail
      try rw [Exit.noGoto_ret]
      go_ret2;rw [HR.out,if_pos hl];subst hl
      exact ⟨rfl,fun _ => HF.out,HKW.out.trans (HT.out.kept.trans HM.out.kept)⟩
     ·have hl1 : (k : Int) + 1 < (n : Int):=ae;go_wp2_with fail
      try rw [Exit.noGoto_ret]
      go_ret2;rw [HR.out,if_neg hl];exact BG
    ·have htp : top (stk (opF xs) k) = (t : Int):=qh;have htn : t < n:=ae;have hiv:=La HT.out.ok
     have hel : elF (opF xs) k t = -1 ∨ ∃ j : Nat,elF (opF xs) k t = j ∧ j < n:=by
      rcases hiv.els t with h | ⟨j,a1,a2,a3,_⟩
      ·exact .inl h
      ·exact .inr ⟨j,a1,ae⟩
     have HE:=hid (Oz A B C n t k _ _ _ hn htn hAB HM.out.en HM.out.el hel)
     have hs1 : stk (opF xs) (k + 1) = stk (opF xs) t:=by rw [oL hO6,hs]; rfl
     have HS1:=hid hs1;have hdl : (stk (opF xs) k).length = (stk (opF xs) t).length + 1:=qh
     have hen : ∀ i,enF (opF xs) (k + 1) i = if i = t ∨ (i : Int) = elF (opF xs) k t then (k : Int) else enF (opF xs) k i:=fun i => Au hO6 hs i
     have HEN:=hid hen;have hlen:=oD HT.out.ok;rw [hdl] at hlen
     have hb6 : ¬ (opF xs k = 6 ∧ stk (opF xs) k = []):=fun x => by rw [hs] at x; cases x.2
     have HB6:=hid hb6;have tb : ((t : Int) == -1) = false:=au;subst hob;subst h6;rw [hdl];rw [htp] at x0 r0 r1 r2 HM HE ⊢;unfold mf at HE;clear hs hs1 hdl hen hb6 hiv hel htp;go_wp2_with fail;refine HE.out.mono ?_;rintro e w4 ⟨rfl,en4,kp4⟩;have z2 : w4.cell? ⟨w.heap.size,2,none⟩ = some (.slice (some ⟨C,0,none⟩) n n):=kp4.cell r2 ae
     have z3 : w4.cell? ⟨C,t,none⟩ = some (.int .i64 (owF (opF xs) (k + 1) t)):=(HM.out.ow.kept kp4 (fun x => hAC x.symm)).cell t htn
     have z4 : owF (opF xs) (k + 1) t = top (stk (opF xs) t):=by unfold owF; rw [if_pos ae]
     rw [z4] at z3
     have hNX:=HT.out.go hlt her HB6.out (en4.congr (fun i _ => HEN.out i)) ((HM.out.el.congr (fun i _ => iJ ae)).kept kp4 (fun x => hAB x.symm)) (HM.out.ow.kept kp4 (fun x => hAC x.symm)) (HM.out.kept.trans (kp4.mono (fun k hk => .inl hk)))
     have HNX:=hid hNX;have HZ:=hid z4;clear hNX en4 kp4 z4 her;generalize hdt : (stk (opF xs) t).length = dt at *;generalize htt : top (stk (opF xs) t) = tt at *;go_wp2_with fail;refine ⟨⟨k + 1,ae,?_,?_,rfl,bU,HNX.out⟩,cC⟩
     ·rw [HS1.out,htt]
     ·rw [HS1.out,hdt]
   ·have b6 : (c == 6) = false:=by simpa using h6
    have hNX:=HT.out.go hlt her (fun x => h6 (hcO.symm.trans x.1)) (HM.out.en.congr (fun i _ => iN (by rw [hcO]; exact h6))) (HM.out.el.congr (fun i _ => iJ (by rw [hcO]; exact h5))) HM.out.ow HM.out.kept
    have HNX:=hid hNX
    have HSK:=hid (iQ hOf (by rw [hcO]; exact h6))
    subst hob;clear hNX her hO hOf;generalize hdl : (stk (opF xs) k).length = dl at *;generalize htp : top (stk (opF xs) k) = tp at *;go_wp2_with fail;refine ⟨⟨k + 1,ae,?_,?_,rfl,bU,HNX.out⟩,cC⟩
    ·rw [HSK.out,htp]
    ·rw [HSK.out,hdl]
  ·obtain rfl : k = n:=ae
   have hres : res (opF xs) k 0 = (38,(k : Int)):=by rw [← hst.rest,Nat.sub_self]; rfl
   have HR:=hid hres;have HT:=hid hst;clear hres hst;generalize (stk (opF xs) k).length = dl at *;generalize top (stk (opF xs) k) = tp at *;go_wp2_with fail
   try rw [Exit.noGoto_ret]
   go_ret2;rw [HR.out]
   exact ⟨rfl,(fun h => cj),HKW.out.trans HT.out.kept⟩
theorem walk_nil (A B C cap : Nat) (a : Option Addr) (w : World) :
  Calls Tryz.prog 81 #[mf A B C 0,.slice a 0 cap] w fun e w' => e = .returned (.tuple #[.int .i64 38,.int .i64 0]) ∧ Kept (fun _ => False) w w':=by
 unfold mf
 have HK:=hid (Kept.alloc (fun _ => False) w (Obj.cells #[Value.slice (some ⟨A,0,none⟩) 0 0,.slice (some ⟨B,0,none⟩) 0 0,.slice (some ⟨C,0,none⟩) 0 0] 152))
 go_enter Tryz.func81,Tryz.ntmps81
 go_wp2_with fail
 go_step3
 go_wp2_with fail
 go_step3
 go_wp2_with fail;refine wp_loop_rounds 1 ?_;rw [rounds_succ];go_wp2_with fail
 try rw [Exit.noGoto_ret]
 go_ret2;exact ⟨rfl,HK.out⟩
def Jl (O : Nat → Int) (n base : Nat) (w : World) (a1 a2 a3 : Option Addr) (m : Nat) : Prop :=
 ((res O n 0).1 ≠ 0 ∧ a1 = none ∧ a2 = none ∧ a3 = none ∧ m = 0) ∨
 (res O n 0 = (0,0) ∧ Good O n ∧ m = n ∧ ∃ A B C,base ≤ A ∧ base ≤ B ∧ base ≤ C ∧ A ≠ B ∧ A ≠ C ∧ B ≠ C ∧ a1 = some ⟨A,0,none⟩ ∧ a2 = some ⟨B,0,none⟩ ∧ a3 = some ⟨C,0,none⟩ ∧
  RI w A n (enF O n) ∧ RI w B n (elF O n) ∧ RI w C n (owF O n))
theorem Jl.keep {O : Nat → Int} {n base base' m : Nat} {w w' : World} {a1 a2 a3 : Option Addr} {S : Nat → Prop} (h : Jl O n base w a1 a2 a3 m) (hk : Kept S w w') (hs : ∀ k,base ≤ k → ¬ S k) (hb : base' ≤ base) : Jl O n base' w' a1 a2 a3 m:=by
 rcases h with h | ⟨g1,g2,g3,A,B,C,x1,x2,x3,x4,x5,x6,x7,x8,x9,y1,y2,y3⟩
 ·exact .inl h
 ·exact .inr ⟨g1,g2,g3,A,B,C,ae,ae,ae,x4,x5,x6,x7,x8,x9,y1.kept hk (hs A x1),y2.kept hk (hs B x2),y3.kept hk (hs C x3)⟩
theorem qA {B : Nat} {w w1 w2 : World} {S : Nat → Prop} (h : Below B w w1) (hk : Kept S w1 w2) (hB : B ≤ w1.heap.size) (hs : ∀ k,S k → B ≤ k) : Below B w w2 :=
 ⟨hk.os.trans h.os,hk.tape.trans h.tape,hk.output.trans h.output,Nat.le_trans h.size hk.size,fun k hx => (hk.block k ae (fun x => by have:=hs k x; omega)).trans (h.block k hx)⟩
theorem lY {fn : Func} {t u v x y : Tmp} (h : fn.results = #[.tmp t,.tmp u,.tmp v,.tmp x,.tmp y]) (tmps : Array Value) (P : Program) (w : World) :
  (results fn tmps).run P w = .ok (.tuple #[tmps.getD t undef,tmps.getD u undef,tmps.getD v undef,tmps.getD x undef,tmps.getD y undef]) w:=by
 simp [results,h]
theorem Ec (a : Option Addr) (n cap : Nat) (xs : List Inx) (w : World) (hn : n ≤ 1048576) (hcap : n ≤ cap) (hc : xy w a n xs) :
  Calls Tryz.prog 57 #[.slice a n cap] w fun e w' => ∃ a1 a2 a3 m,e = .returned (.tuple #[.slice a1 m m,.slice a2 m m,.slice a3 m m,.int .i64 (res (opF xs) n 0).1,.int .i64 (res (opF xs) n 0).2]) ∧ Jl (opF xs) n w.heap.size w' a1 a2 a3 m ∧ Below w.heap.size w w':=by
 have H1:=hid (blank n w hn);have HC:=hid hc;clear hc
 go_enter Tryz.func57,Tryz.ntmps57
 go_wp2_with fail;refine H1.out.mono ?_;rintro e w1 ⟨A,rfl,hA0,hA,hb1⟩;have H2:=hid (blank n w1 hn);go_wp2_with fail;refine H2.out.mono ?_;rintro e w2 ⟨B,rfl,hB0,hB,hb2⟩;have H3:=hid (blank n w2 hn);go_wp2_with fail;refine H3.out.mono ?_;rintro e w3 ⟨C,rfl,hC0,hC,hb3⟩;have hAl:=hA.lt;have hBl:=hB.lt;have hCl:=hC.lt;have hs1:=hb1.size;have hs2:=hb2.size;have hs3:=hb3.size;have hAB : A ≠ B:=ae;have hAC : A ≠ C:=ae;have hBC : B ≠ C:=ae;have k2:=Kept.of_below hb2;have k3:=Kept.of_below hb3;have hA3:=(hA.kept k2 ae).kept k3 ae;have hB3:=hB.kept k3 ae;have hbw : Below w.heap.size w w3:=(hb1.trans (hb2.mono hs1)).trans (hb3.mono ae);obtain ⟨op,hop⟩ : ∃ op,op = Obj.cells #[Value.slice (some ⟨A,0,none⟩) n n,.slice (some ⟨B,0,none⟩) n n,.slice (some ⟨C,0,none⟩) n n] 152:=⟨_,rfl⟩
 have kf:=Kept.alloc (fun _ => False) w3 op
 have hbp : Below w.heap.size w (w3.alloc op):=hbw.alloc ae op
 have hA4:=hA3.kept kf (fun x => x)
 have hB4:=hB3.kept kf (fun x => x)
 have hC4:=hC.kept kf (fun x => x)
 have p0 : (w3.alloc op).cell? ⟨w3.heap.size,0,none⟩ = some (.slice (some ⟨A,0,none⟩) n n):=yV;have p1 : (w3.alloc op).cell? ⟨w3.heap.size,1,none⟩ = some (.slice (some ⟨B,0,none⟩) n n):=yV;have p2 : (w3.alloc op).cell? ⟨w3.heap.size,2,none⟩ = some (.slice (some ⟨C,0,none⟩) n n):=yV;have nP : ¬ (w3.heap.size = A ∨ w3.heap.size = B ∨ w3.heap.size = C):=ae
 have hwalk : Calls Tryz.prog 81 #[mf A B C n,.slice a n cap] (w3.alloc op) fun e w' => e = .returned (.tuple #[.int .i64 (res (opF xs) n 0).1,.int .i64 (res (opF xs) n 0).2]) ∧
   ((res (opF xs) n 0).1 = 0 → RI w' A n (enF (opF xs) n) ∧ RI w' B n (elF (opF xs) n) ∧ RI w' C n (owF (opF xs) n)) ∧ Kept (fun k => k = A ∨ k = B ∨ k = C) (w3.alloc op) w':=by
  have hcs:=HC.out.later hbp (Nat.le_refl _)
  by_cases h0 : n = 0
  ·subst h0
   refine (walk_nil A B C cap a _).mono fun e w' ⟨he,hk⟩ => ⟨by rw [he]; rfl,(fun h => cj),hk.mono (fun _ x => x.elim)⟩
  ·rcases hcs.2 with hc | ⟨b,off,rfl,hc⟩
   ·exact absurd hc h0
   have hb : b < w.heap.size:=by
    rcases HC.out.2 with hx | ⟨b',off',e,hx⟩
    ·exact absurd hx h0
    ·injection e with e; injection e with e1; subst e1; exact hx.lt ae
   exact walk_in A B C b off n cap xs _ hn hcap ae hc hAB hAC hBC ae ae ae hA4 hB4 hC4
 have HW:=hid hwalk;have HB:=hid hbp;unfold mf at HW;have hge : w.heap.size ≤ w3.heap.size:=ae;have hsz : (w3.alloc op).heap.size = w3.heap.size + 1:=au;subst hop;clear hwalk hA hB hC hA3 hB3 hA4 hB4 hC4 kf k2 k3 hbw hbp hb1 hb2 hb3 hs1 hs2 hs3;go_wp2_with fail;refine HW.out.mono ?_;rintro e w5 ⟨rfl,hR,hk⟩;have z0:=hk.cell p0 nP;have z1:=hk.cell p1 nP;have z2:=hk.cell p2 nP
 have HB5:=hid (qA HB.out hk ae (fun k hx => ae))
 have HR:=hid hR;clear hR hk
 by_cases h0 : (res (opF xs) n 0).1 = 0
 ·have hg:=Fy h0;have HRR:=hid (kH hg);have HG:=hid hg
  have hz : ((res (opF xs) n 0).1 == 0) = true:=by rw [h0]; rfl
  have hz' : ((res (opF xs) n 0).1 != 0) = false:=by rw [h0]; rfl
  have H0:=hid h0;clear h0 hg;generalize hr1 : (res (opF xs) n 0).1 = r1 at *;generalize hr2 : (res (opF xs) n 0).2 = r2 at *;go_wp2_with fail
  go_quiet (fail)
  go_wp2_with fail
  (try simp only [Exit.inBlock,Exit.then])
  refine bodyPost_ret (lY rfl _ _ _) rfl ?_;have e1 : r1 = 0:=H0.out
  have e2 : r2 = 0:=by rw [← hr2,HRR.out]
  have kd:=Kept.drewN (fun _ => False) w5 nq
  obtain ⟨R1,R2,R3⟩:=HR.out e1
  refine ⟨_,_,_,_,by rw [hr1,hr2,e1,e2]; rfl,?_,qA HB5.out kd HB5.out.size (fun _ x => x.elim)⟩
  exact .inr ⟨HRR.out,HG.out,rfl,A,B,C,ae,ae,ae,hAB,hAC,hBC,rfl,rfl,rfl,R1.kept kd (fun x => x),R2.kept kd (fun x => x),R3.kept kd (fun x => x)⟩
 ·have hz : ((res (opF xs) n 0).1 == 0) = false:=by simpa using h0
  have hz' : ((res (opF xs) n 0).1 != 0) = true:=by simpa using h0
  have H0:=hid h0;clear h0;generalize hr1 : (res (opF xs) n 0).1 = r1 at *;generalize hr2 : (res (opF xs) n 0).2 = r2 at *;go_wp2_with fail
  (try simp only [Exit.inBlock,Exit.then])
  refine bodyPost_ret (lY rfl _ _ _) rfl ?_
  refine ⟨_,_,_,_,by rw [hr1,hr2]; rfl,.inl ⟨?_,rfl,rfl,rfl,rfl⟩,HB5.out⟩
  rw [hr1]; exact H0.out
def i6 : List Int:=[70,76,71,78,1]
def cN (m : MM) : Int:=orE (fV m) (if 65536 < (i6 ++ yA m).length then 13 else 0)
theorem Far.later {w W : World} {R g : Nat} {a : Option Addr} (h : Far w R g a) (hb : Below w.heap.size w W) : Far W R g a:=fun b off c hh => ⟨(h b off c hh).1,(h b off c hh).2.1,Nat.lt_of_lt_of_le (h b off c hh).2.2 hb.size⟩
theorem MOk.later {w W : World} {R g : Nat} {m : MM} (h : MOk w R g m) (hb : Below w.heap.size w W) : MOk W R g m:=by
 have hk : Kept (fun _ => False) w W:=aX hb
 refine ⟨h.pt.kept hk (fun _ _ _ _ => id),h.tf.later hb,h.ph.kept hk (fun _ _ _ _ => id),h.hf.later hb,h.hr,h.pg.kept hk (fun _ _ _ _ => id),h.gf.later hb,h.gr,h.i0,h.i1,h.o0,h.o1,h.pf.kept hk (fun _ _ _ _ => id),h.ff.later hb,fun j x hj => ?_,h.pd.kept hk (fun _ _ _ _ => id),h.df.later hb,fun j x hj => ?_,h.pe.kept hk (fun _ _ _ _ => id),h.ef.later hb,h.er⟩
 ·obtain ⟨a1,a2,a3,a4⟩:=h.fr j x hj
  refine ⟨a1,a2.kept hk (fun _ _ _ _ => id),a3.later hb,fun i y hi => ?_⟩
  obtain ⟨b1,b2,b3,b4⟩:=a4 i y hi
  exact ⟨b1,b2,b3.kept' hk (fun _ _ _ _ => id),b4.later hb⟩
 ·obtain ⟨a1,a2,a3⟩:=h.dr j x hj
  exact ⟨a1,a2.kept' hk (fun _ _ _ _ => id),a3.later hb⟩
def fM (w : World) (m : MM) : World:=((w.alloc (.cells (mV m) 29)).alloc (gV none 0 0)).alloc (jz 0)
def W22 (w : World) (m : MM) : World:=((fM w m).alloc (.cells #[.int .u8 70,.int .u8 76,.int .u8 71,.int .u8 78,.int .u8 1] 5 (5,6))).alloc (.cells #[.slice (some ⟨w.heap.size + 1 + 1 + 1,0,none⟩) 5 5] 147)
theorem DC (w : World) (m : MM) : Below w.heap.size w (W22 w m) ∧ (W22 w m).heap.size = w.heap.size + 1 + 1 + 1 + 1 + 1 ∧ Wr (W22 w m) (w.heap.size + 1 + 1 + 1 + 1) (w.heap.size + 1 + 1 + 1) 5 i6 ∧
  (W22 w m).heap[w.heap.size]? = some (.cells (mV m) 29) ∧ (W22 w m).cell? ⟨w.heap.size + 1,0,none⟩ = some (.slice none 0 0) ∧ (W22 w m).frozen? ⟨w.heap.size + 1,0,none⟩ = false ∧ (W22 w m).cell? ⟨w.heap.size + 1 + 1,0,none⟩ = some (.int .i64 0) ∧ (W22 w m).frozen? ⟨w.heap.size + 1 + 1,0,none⟩ = false:=by
 have za : (fM w m).heap.size = w.heap.size + 1 + 1 + 1:=by simp [fM]
 have zb : ((fM w m).alloc (.cells #[.int .u8 70,.int .u8 76,.int .u8 71,.int .u8 78,.int .u8 1] 5 (5,6))).heap.size = w.heap.size + 1 + 1 + 1 + 1:=by simp [fM]
 have B1 : Below w.heap.size w (fM w m):=(((Below.refl _ w).alloc (Nat.le_refl _) _).alloc au _).alloc cE _;have B2:=aj (fM w m) (.cells #[.int .u8 70,.int .u8 76,.int .u8 71,.int .u8 78,.int .u8 1] 5 (5,6));have B3:=aj ((fM w m).alloc (.cells #[.int .u8 70,.int .u8 76,.int .u8 71,.int .u8 78,.int .u8 1] 5 (5,6))) (.cells #[.slice (some ⟨w.heap.size + 1 + 1 + 1,0,none⟩) 5 5] 147)
 have hb : ∀ k,k < w.heap.size + 1 + 1 + 1 → (W22 w m).heap[k]? = (fM w m).heap[k]?:=fun k hk => (B3.block k ae).trans (B2.block k ae)
 have hg:=(MapKept.heap_alloc (fM w m) (.cells #[.int .u8 70,.int .u8 76,.int .u8 71,.int .u8 78,.int .u8 1] 5 (5,6))).1;rw [za] at hg;have hg' : (W22 w m).heap[w.heap.size + 1 + 1 + 1]? = some (.cells #[.int .u8 70,.int .u8 76,.int .u8 71,.int .u8 78,.int .u8 1] 5 (5,6)):=(B3.block _ ae).trans hg;have hR:=(MapKept.heap_alloc ((fM w m).alloc (.cells #[.int .u8 70,.int .u8 76,.int .u8 71,.int .u8 78,.int .u8 1] 5 (5,6))) (.cells #[.slice (some ⟨w.heap.size + 1 + 1 + 1,0,none⟩) 5 5] 147)).1;rw [zb] at hR;have hR' : (W22 w m).heap[w.heap.size + 1 + 1 + 1 + 1]? = some (.cells #[.slice (some ⟨w.heap.size + 1 + 1 + 1,0,none⟩) 5 5] 147):=hR
 have c1 : (fM w m).heap[w.heap.size + 1]? = some (gV none 0 0):=by
  unfold fM;rw [(aj ((w.alloc (.cells (mV m) 29)).alloc (gV none 0 0)) _).block _ au]
  have:=(MapKept.heap_alloc (w.alloc (.cells (mV m) 29)) (gV none 0 0)).1
  exact cm
 have c2 : (fM w m).heap[w.heap.size + 1 + 1]? = some (jz 0):=by
  have:=(MapKept.heap_alloc ((w.alloc (.cells (mV m) 29)).alloc (gV none 0 0)) (jz 0)).1
  simpa [fM] using this
 have c0 : (fM w m).heap[w.heap.size]? = some (.cells (mV m) 29):=by
  unfold fM;rw [(aj ((w.alloc (.cells (mV m) 29)).alloc (gV none 0 0)) _).block _ cE,(aj (w.alloc (.cells (mV m) 29)) _).block _ au];exact (MapKept.heap_alloc w _).1
 refine ⟨(B1.trans (B2.mono B1.size)).trans (B3.mono ae),by simp [W22,fM],⟨?_,?_,.inr ⟨rfl,ax,?_,rfl,?_⟩,ae⟩,(hb _ ae).trans c0,?_,?_,?_,?_⟩
 ·simp [World.cell?,hR',i6]
 ·simp [World.frozen?,hR']
 ·simp [W22,fM]
 ·intro j u hj;have hl:=az hj
  simp [i6] at hl
  simp only [World.cell?,hg']
  have : j = 0 ∨ j = 1 ∨ j = 2 ∨ j = 3 ∨ j = 4:=ae
  rcases this with rfl | rfl | rfl | rfl | rfl <;> simpa [i6] using hj
 ·have:=(hb (w.heap.size + 1) ae).trans c1
  simp [World.cell?,this]
 ·have:=(hb (w.heap.size + 1) ae).trans c1
  simp [World.frozen?,this]
 ·have:=(hb (w.heap.size + 1 + 1) ae).trans c2
  simp [World.cell?,this]
 ·have:=(hb (w.heap.size + 1 + 1) ae).trans c2
  simp [World.frozen?,this]
theorem yI (w : World) (m : MM) : (convert 42 42 (.slice (some ⟨w.heap.size + 1 + 1 + 1,0,none⟩) 5 5)).run Tryz.prog ((((w.alloc (.cells (mV m) 29)).alloc (gV none 0 0)).alloc (jz 0)).alloc (.cells #[.int .u8 70,.int .u8 76,.int .u8 71,.int .u8 78,.int .u8 1] 5)) =
  .ok (.slice (some ⟨w.heap.size + 1 + 1 + 1,0,none⟩) 5 5) ((fM w m).alloc (.cells #[.int .u8 70,.int .u8 76,.int .u8 71,.int .u8 78,.int .u8 1] 5 (5,6))):=by
 have za : (fM w m).heap.size = w.heap.size + 1 + 1 + 1:=by simp [fM]
 have:=Go.Lib.run_convert_bytes_const (P:=Tryz.prog) (fM w m) 42 5 #[.int .u8 70,.int .u8 76,.int .u8 71,.int .u8 78,.int .u8 1] 5 5 Tryz.underlying42 Tryz.underlying5
 rw [za] at this;exact this
theorem Nr (m : MM) (w : World) (hk : bf w) (hm : ∀ R g,w.heap.size ≤ R → w.heap.size ≤ g → MOk w R g m) :
  Calls Tryz.prog 56 #[.agg (mV m)] w fun e w' => Below w.heap.size w w' ∧ (cN m ≠ 0 → e = .returned (.tuple #[.slice none 0 0,.int .i64 (cN m)])) ∧ (cN m = 0 → ∃ a c,e = .returned (.tuple #[.slice a (i6 ++ yA m).length c,.int .i64 0])):=by
 have hmf : ∀ (fn : Fn) (first cap : Array Value) (w : World),(Instr.makeFunc fn first cap).run Tryz.prog w = .ok (.func fn first cap) w:=fun _ _ _ _ => rfl
 obtain ⟨B0,z0,hwr,x0,x1,f1,x2,f2⟩:=DC w m;have HWk:=hid (MH (w.heap.size + 1 + 1 + 1 + 1) (w.heap.size + 1 + 1 + 1) 5 i6 m (W22 w m) hwr ax ae ae (hk.later B0 hk.pos) ((hm _ _ ae ae).later B0));have hcv:=yI w m;have hW : ((fM w m).alloc (.cells #[.int .u8 70,.int .u8 76,.int .u8 71,.int .u8 78,.int .u8 1] 5 (5,6))).alloc (.cells #[.slice (some ⟨w.heap.size + 1 + 1 + 1,0,none⟩) 5 5] 147) = W22 w m:=rfl
 have za : ((fM w m).alloc (.cells #[.int .u8 70,.int .u8 76,.int .u8 71,.int .u8 78,.int .u8 1] 5 (5,6))).heap.size = w.heap.size + 1 + 1 + 1 + 1:=by simp [fM]
 obtain ⟨⟨m0,m1,m2,m3,m4,m5,m6,m7⟩,_⟩:=aN x0;have BW:=hid B0;generalize W22 w m = W1 at *;generalize (fM w m).alloc (.cells #[.int .u8 70,.int .u8 76,.int .u8 71,.int .u8 78,.int .u8 1] 5 (5,6)) = W0 at *;unfold mV at hcv HWk
 show Calls Tryz.prog 56 #[.agg #[.slice m.ta m.tn m.tc,.slice m.ha m.hn m.hc,.slice m.ga m.gn m.gc,.int .i64 m.fi,.int .i64 m.mo,.slice m.fa m.fn m.fc,.slice m.da m.dn m.dc,.slice m.ea m.en m.ec]] w _
 clear hm hk B0
 go_enter_defers Tryz.func56,Tryz.ntmps56
 go_wp2_with fail;refine HWk.out.mono ?_;rintro e w9 ⟨hyes,hno⟩
 by_cases hx : fV m = 0
 rotate_left
 ·obtain ⟨⟨p,rfl⟩,hkept⟩:=hno hx;have hcm : cN m = fV m:=ik hx;have y1:=hkept.cell x1 ae;have y2:=hkept.cell x2 ae;have g1:=(bb (hkept.block (w.heap.size + 1) ae ae) 0).trans f1;have g2:=(bb (hkept.block (w.heap.size + 1 + 1) ae ae) 0).trans f2;have HC:=hid (Be (fV m) p (w.heap.size + 1) (w.heap.size + 1 + 1) _ _ w9 y1 g1 y2 g2 ae);clear hyes hno HWk;refine leaves_cons (f:=76) (args:=#[.pointer (some ⟨w.heap.size + 1,0,none⟩),.pointer (some ⟨w.heap.size + 1 + 1,0,none⟩)]) au aB ?_;refine HC.out.mono ?_;rintro e u' w10 ⟨rfl,rfl,q1,q2,q3⟩
  have HB : Hid (Below w.heap.size w w10):=(BW.out.trans ((hkept.to_below (B:=w.heap.size) ae (fun k hk => ae)).mono (Nat.le_refl _))).trans (q3.to_below (by have:=hkept.size; omega) (fun k hk => ae))
  refine (show Go.Leaves Tryz.prog Tryz.f56 _ _ [] FrameMode.returning w10 from ⟨.tuple #[.slice none 0 0,.int .i64 (fV m)],?_,HB.out,fun _ => ?_,fun h0 => absurd (hcm.symm.trans h0) hx⟩)
  ·simp [results,Tryz.results56,go_sem,q1,q2]
  ·rw [hcm]
 ·obtain ⟨v,rfl,g',cap',hw9,hkept⟩:=hyes hx;have y1:=hkept.cell x1 ae;have y2:=hkept.cell x2 ae;have g1:=(bb (hkept.block (w.heap.size + 1) ae ae) 0).trans f1;have g2:=(bb (hkept.block (w.heap.size + 1 + 1) ae ae) 0).trans f2;have c9:=hw9.c0;have hK9:=hid hkept;have hz9:=hkept.size;have hcm : cN m = if 65536 < (i6 ++ yA m).length then 13 else 0:=bn hx
  have HB9 : Hid (Below w.heap.size w w9):=BW.out.trans ((hkept.to_below (B:=w.heap.size) ae (fun k hk => ae)).mono (Nat.le_refl _))
  clear hyes hno HWk m0 m1 m2 m3 m4 m5 m6 m7 hwr x0 x1 x2 f1 f2 hkept;obtain ⟨E,hE⟩ : ∃ E,i6 ++ yA m = E:=⟨_,rfl⟩;rw [hE] at c9 hcm hw9;have HE:=hid hE;clear hE
  by_cases hlong : 65536 < E.length
  ·have hd : decide ((E.length : Int) ≤ 65536) = false:=aI;rw [if_pos hlong] at hcm;go_wp2_with fail
   refine (dX (by first | rfl | exact hd)).mono ?_
   rintro e w9' ⟨rfl,rfl⟩;have HC:=hid (Be 13 0 (w.heap.size + 1) (w.heap.size + 1 + 1) _ _ w9' y1 g1 y2 g2 ae);refine leaves_cons (f:=76) (args:=#[.pointer (some ⟨w.heap.size + 1,0,none⟩),.pointer (some ⟨w.heap.size + 1 + 1,0,none⟩)]) au aB ?_;refine HC.out.mono ?_;rintro e u' w10 ⟨rfl,rfl,q1,q2,q3⟩
   have HB : Hid (Below w.heap.size w w10):=HB9.out.trans (q3.to_below ae (fun k hk => ae))
   refine (show Go.Leaves Tryz.prog Tryz.f56 _ _ [] FrameMode.returning w10 from ⟨.tuple #[.slice none 0 0,.int .i64 13],?_,HB.out,fun _ => ?_,fun h0 => by rw [hcm] at h0; cases h0⟩)
   ·simp [results,Tryz.results56,go_sem,q1,q2]
   ·rw [hcm]
  ·have hd : decide ((E.length : Int) ≤ 65536) = true:=aI;rw [if_neg hlong] at hcm;go_wp2_with fail
   refine (cu (by first | rfl | exact hd)).mono ?_
   rintro e w9' ⟨rfl,rfl⟩;go_wp2_with fail;generalize hW9 : w9'.setCell ⟨w.heap.size + 1,0,none⟩ (.slice (some ⟨g',0,none⟩) E.length cap') = Wa at *
   have k1 : Wa.cell? ⟨w.heap.size + 1,0,none⟩ = some (.slice (some ⟨g',0,none⟩) E.length cap'):=by rw [← hW9]; exact World.cell?_setCell_same _ _ _ y1
   have k2 : Wa.cell? ⟨w.heap.size + 1 + 1,0,none⟩ = some (.int .i64 0):=by rw [← hW9,World.cell?_setCell_other _ _ _ _ au]; exact y2
   have K1 : Below w.heap.size w9' Wa:=by rw [← hW9]; exact (ay w9' (w.heap.size + 1) 0 _).to_below ae (fun k hk => ae)
   have zz : Wa.heap.size = w9'.heap.size:=by rw [← hW9]; simp [World.setCell]
   generalize hWb : Wa.setCell ⟨w.heap.size + 1 + 1,0,none⟩ (.int .i64 0) = Wb at *
   have n1 : Wb.cell? ⟨w.heap.size + 1,0,none⟩ = some (.slice (some ⟨g',0,none⟩) E.length cap'):=by rw [← hWb,World.cell?_setCell_other _ _ _ _ au]; exact k1
   have n2 : Wb.cell? ⟨w.heap.size + 1 + 1,0,none⟩ = some (.int .i64 0):=by rw [← hWb]; exact World.cell?_setCell_same _ _ _ k2
   have K2 : Below w.heap.size Wa Wb:=by rw [← hWb]; exact (ay Wa (w.heap.size + 1 + 1) 0 _).to_below ae (fun k hk => ae)
   refine leaves_cons (f:=76) (args:=#[.pointer (some ⟨w.heap.size + 1,0,none⟩),.pointer (some ⟨w.heap.size + 1 + 1,0,none⟩)]) au aB ?_;refine (LH _ _ _).mono ?_;rintro e u' w10 ⟨rfl,rfl,hb10⟩
   have q1:=(hb10.cell (by exact block_lt_of_cell n1)).trans n1
   have q2:=(hb10.cell (by exact block_lt_of_cell n2)).trans n2
   have HB : Hid (Below w.heap.size w w10):=((HB9.out.trans K1).trans K2).trans (hb10.mono (by have:=K2.size; omega))
   refine (show Go.Leaves Tryz.prog Tryz.f56 _ _ [] FrameMode.returning w10 from ⟨.tuple #[.slice (some ⟨g',0,none⟩) E.length cap',.int .i64 0],?_,HB.out,fun h0 => absurd hcm h0,fun _ => ⟨some ⟨g',0,none⟩,cap',?_⟩⟩)
   ·simp [results,Tryz.results56,go_sem,q1,q2]
   ·rw [HE.out]
theorem JD (m : MM) (w : World) (hk : bf w) (hm : ∀ R g,w.heap.size ≤ R → w.heap.size ≤ g → MOk w R g m) :
  Calls Tryz.prog 24 #[.agg (mV m)] w fun e w' => e = .returned (.int .i64 (cN m)) ∧ Below w.heap.size w w':=by
 have B1:=aj w (.cells (mV m) 29)
 have HE:=hid (Nr m (w.alloc (.cells (mV m) 29)) (hk.later B1 hk.pos) (fun R g h1 h2 => (hm R g (by simp at h1; omega) (by simp at h2; omega)).later B1))
 have hb:=(MapKept.heap_alloc w (.cells (mV m) 29)).1;have BW:=hid B1;obtain ⟨⟨m0,m1,m2,m3,m4,m5,m6,m7⟩,_⟩:=aN hb;have HW : w.alloc (aR m.ta m.tn m.tc m.ha m.hn m.hc m.ga m.gn m.gc m.fi m.mo m.fa m.fn m.fc m.da m.dn m.dc m.ea m.en m.ec) = w.alloc (.cells (mV m) 29):=rfl;generalize w.alloc (.cells (mV m) 29) = W1 at *;unfold mV at HE
 show Calls Tryz.prog 24 #[.agg #[.slice m.ta m.tn m.tc,.slice m.ha m.hn m.hc,.slice m.ga m.gn m.gc,.int .i64 m.fi,.int .i64 m.mo,.slice m.fa m.fn m.fc,.slice m.da m.dn m.dc,.slice m.ea m.en m.ec]] w _
 clear hm hk B1
 go_enter Tryz.func24,Tryz.ntmps24
 go_wp2_with fail;refine HE.out.mono ?_;rintro e w2 ⟨hb2,hno,hyes⟩;have HB:=hid (i9 BW.out hb2)
 by_cases hx : cN m = 0
 ·obtain ⟨a,c,rfl⟩:=hyes hx;go_wp2_with fail;go_ret
  exact ⟨by rw [hx]; rfl,HB.out⟩
 ·obtain rfl:=hno hx;exact uj
end Go.Proofs.YtkdldbfbldkkcaaGreatDoor
