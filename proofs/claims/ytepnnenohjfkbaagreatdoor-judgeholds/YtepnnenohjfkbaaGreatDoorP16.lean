/-
  Texts Walk Map At Place Good Jb.
-/
import Derived.BigQuiet
import Derived.Deep.QuietTactic
import Derived.Handy
import Derived.Sort.OwnSortedInts
import Derived.WalkMore
import Derived.Test.YtepnnenohjfkbaaGreatDoorP00
import Derived.Test.YtepnnenohjfkbaaGreatDoorP06
import Derived.Test.YtepnnenohjfkbaaGreatDoorP14
import Derived.Test.YtepnnenohjfkbaaGreatDoorP15
set_option linter.unusedVariables false
set_option maxRecDepth 100000
set_option maxHeartbeats 16000000
namespace Go.Proofs.YtepnnenohjfkbaaGreatDoor
open Go.RowKit
structure WSt (O : Nat → Int) (A B C n : Nat) (w1 : World) (k : Nat) (wr : World) : Prop where
 ok : Okp O k
 rest : res O (n - k) k = res O n 0
 en : RI wr A n (enF O k)
 el : RI wr B n (elF O k)
 ow : RI wr C n (owF O k)
 kept : Kept (fun k => k = A ∨ k = B ∨ k = C) w1 wr
theorem jV {O : Nat → Int} {k : Nat} (h : Okp O k) (he : er O k = 0) (hb : ¬ (O k = 6 ∧ stk O k = [])) : Okp O (k + 1):=fun i hi => by
 by_cases e : i = k
 ·subst e; exact ⟨he,hb⟩
 ·exact h i ae
theorem WSt.go {O : Nat → Int} {A B C n : Nat} {w1 wr wr' : World} {k : Nat} (h : WSt O A B C n w1 k wr) (hlt : k < n) (he : er O k = 0) (hb : ¬ (O k = 6 ∧ stk O k = []))
  (en : RI wr' A n (enF O (k + 1))) (el : RI wr' B n (elF O (k + 1))) (ow : RI wr' C n (owF O (k + 1))) (kp : Kept (fun k => k = A ∨ k = B ∨ k = C) wr wr') : WSt O A B C n w1 (k + 1) wr' :=
 ⟨jV h.ok he hb,(iX hlt he hb).symm.trans h.rest,en,el,ow,h.kept.trans kp⟩
structure Mid (O : Nat → Int) (A B C n : Nat) (k : Nat) (wr wr3 : World) : Prop where
 en : RI wr3 A n (enF O k)
 el : RI wr3 B n (elF O k)
 ow : RI wr3 C n (owF O (k + 1))
 kept : Kept (fun k => k = A ∨ k = B ∨ k = C) wr wr3
theorem WSt.mid {O : Nat → Int} {A B C n : Nat} {w1 wr : World} {k : Nat} (h : WSt O A B C n w1 k wr) (hAC : A ≠ C) (hBC : B ≠ C) (ob : Obj) : Mid O A B C n k wr ((wr.alloc ob).setCell ⟨C,k,none⟩ (.int .i64 (top (stk O k)))):=by
 have kf:=Kept.alloc (fun _ => False) wr ob
 have p:=(h.ow.kept kf (fun x => x)).put (g:=owF O (k + 1)) k (top (stk O k)) (fun i hi => yu O k i)
 exact ⟨(h.en.kept kf (fun x => x)).kept p.2 hAC,(h.el.kept kf (fun x => x)).kept p.2 hBC,p.1,(Kept.alloc _ wr ob).trans (p.2.mono (fun k hk => .inr (.inr hk)))⟩
theorem walk_in (A B C b off n cap : Nat) (xs : List Inx) (w : World) (hn : n ≤ 1048576) (hcap : n ≤ cap) (hn0 : 0 < n) (hc : Cod w b off n xs) (hAB : A ≠ B) (hAC : A ≠ C) (hBC : B ≠ C) (hbA : b ≠ A) (hbB : b ≠ B) (hbC : b ≠ C)
  (hA : RI w A n (fun _ => -1)) (hB : RI w B n (fun _ => -1)) (hC : RI w C n (fun _ => -1)) :
  Calls Tryz.prog 90 #[nr A B C n,.slice (some ⟨b,off,none⟩) n cap] w fun e w' => e = .returned (.tuple #[.int .i64 (res (opF xs) n 0).1,.int .i64 (res (opF xs) n 0).2]) ∧
   ((res (opF xs) n 0).1 = 0 → RI w' A n (enF (opF xs) n) ∧ RI w' B n (elF (opF xs) n) ∧ RI w' C n (owF (opF xs) n)) ∧ Kept (fun k => k = A ∨ k = B ∨ k = C) w w':=by
 unfold nr;obtain ⟨o,ho⟩ : ∃ o,o = Obj.cells #[Value.slice (some ⟨A,0,none⟩) n n,.slice (some ⟨B,0,none⟩) n n,.slice (some ⟨C,0,none⟩) n n] 78:=⟨_,rfl⟩
 have kw:=Kept.alloc (fun k => k = A ∨ k = B ∨ k = C) w o
 have kf:=Kept.alloc (fun _ => False) w o
 have hst : WSt (opF xs) A B C n (w.alloc o) 0 (w.alloc o):=⟨fun i hi => absurd hi ae,rfl,(hA.kept kf (fun x => x)).congr (fun _ _ => rfl),(hB.kept kf (fun x => x)).congr (fun _ _ => rfl),(hC.kept kf (fun x => x)).congr (fun _ _ => rfl),Kept.refl _ _⟩
 have hp0 : (w.alloc o).cell? ⟨w.heap.size,0,none⟩ = some (.slice (some ⟨A,0,none⟩) n n):=qm;have hp1 : (w.alloc o).cell? ⟨w.heap.size,1,none⟩ = some (.slice (some ⟨B,0,none⟩) n n):=qm;have hp2 : (w.alloc o).cell? ⟨w.heap.size,2,none⟩ = some (.slice (some ⟨C,0,none⟩) n n):=qm;have hAl:=hA.lt;have hBl:=hB.lt;have hCl:=hC.lt;have nP : ¬ (w.heap.size = A ∨ w.heap.size = B ∨ w.heap.size = C):=ae;have nb : ¬ (b = A ∨ b = B ∨ b = C):=ae;have HST:=hid hst;have HP0:=hid hp0;have HP1:=hid hp1;have HP2:=hid hp2;have HC:=hid hc;have HKW:=hid kw;have HKF:=hid kf;obtain ⟨P,hP⟩ : ∃ P,P = w.heap.size:=⟨_,rfl⟩;clear hA hB hC hst hp0 hp1 hp2 hc kw kf hAl hBl hCl;subst ho
 go_enter Tryz.func90,Tryz.ntmps90
 go_wp2_with fail
 go_step3
 go_wp2_with fail
 go_step3
 go_wp2_with fail;generalize hw1 : w.alloc (Obj.cells #[Value.slice (some ⟨A,0,none⟩) n n,.slice (some ⟨B,0,none⟩) n n,.slice (some ⟨C,0,none⟩) n n] 78) = w1 at *
 go_loopw [6,7,8,13] (fun o d z i wr => ∃ k : Nat,k ≤ n ∧ o = .int .i64 (top (stk (opF xs) k)) ∧ d = .int .i64 (stk (opF xs) k).length ∧ z = .int .i64 0 ∧ i = .int .i64 k ∧ WSt (opF xs) A B C n w1 k wr) (fun _ _ _ i _ => n - (intOf i).toNat)
 case atStart => exact ⟨0,ae,rfl,rfl,rfl,rfl,HST.out⟩
 case round =>
  obtain ⟨k,hk,rfl,rfl,rfl,rfl,hst⟩:=hrel
  by_cases hlt : k < n
  ·have g0 : wr.cell? ⟨b,off + k * 3,none⟩ = some (.int .u8 (opF xs k)):=hst.kept.cell (HKF.out.cell (HC.out.op hlt) (fun x => x)) nb
   have hcr:=HC.out.range hlt
   obtain ⟨av,g1⟩ : ∃ av,wr.cell? ⟨b,off + k * 3 + 1,none⟩ = some (.int .i64 av):=⟨_,hst.kept.cell (HKF.out.cell (HC.out.num hlt) (fun x => x)) nb⟩
   obtain ⟨la,ln,lc,g2⟩ : ∃ la ln lc,wr.cell? ⟨b,off + k * 3 + 2,none⟩ = some (.slice la ln lc):=⟨_,_,_,hst.kept.cell (HKF.out.cell (HC.out.lab hlt) (fun x => x)) nb⟩
   obtain ⟨c,hcO⟩ : ∃ c,opF xs k = c:=⟨_,rfl⟩;rw [hcO] at g0 hcr;obtain ⟨ob,hob⟩ : ∃ ob,ob = Obj.cells #[Value.int .u8 c,.int .i64 av,.slice la ln lc] 51:=⟨_,rfl⟩;have hmid:=hst.mid hAC hBC ob
   have kf2:=Kept.alloc (fun _ => False) wr ob
   have hlw : w.heap.size < wr.heap.size:=by
    have h1:=hst.kept.size;have h2:=block_lt_of_cell HP0.out
    simp only at h2
    omega
   have q2 : (wr.alloc ob).cell? ⟨w.heap.size,2,none⟩ = some (.slice (some ⟨C,0,none⟩) n n):=kf2.cell (hst.kept.cell HP2.out nP) (fun x => x)
   have c2 : (wr.alloc ob).cell? ⟨C,k,none⟩ = some (.int .i64 (owF (opF xs) k k)):=(hst.ow.kept kf2 (fun x => x)).cell k hlt
   have f2 : (wr.alloc ob).frozen? ⟨C,k,none⟩ = false:=(hst.ow.kept kf2 (fun x => x)).free k
   have nC : ¬ C = w.heap.size:=ae
   have nCw : ¬ C = wr.heap.size:=by have:=hst.ow.lt; omega
   have x0 : ((wr.alloc ob).setCell ⟨C,k,none⟩ (.int .i64 (top (stk (opF xs) k)))).cell? ⟨wr.heap.size,0,none⟩ = some (.int .u8 c):=by
    rw [World.cell?_setCell_other _ _ _ _ (fun e => nCw (by injection e)),hob,World.cell?_alloc_new]; rfl
   have r0 : ((wr.alloc ob).setCell ⟨C,k,none⟩ (.int .i64 (top (stk (opF xs) k)))).cell? ⟨w.heap.size,0,none⟩ = some (.slice (some ⟨A,0,none⟩) n n):=hmid.kept.cell (hst.kept.cell HP0.out nP) nP;have r1 : ((wr.alloc ob).setCell ⟨C,k,none⟩ (.int .i64 (top (stk (opF xs) k)))).cell? ⟨w.heap.size,1,none⟩ = some (.slice (some ⟨B,0,none⟩) n n):=hmid.kept.cell (hst.kept.cell HP1.out nP) nP;have r2 : ((wr.alloc ob).setCell ⟨C,k,none⟩ (.int .i64 (top (stk (opF xs) k)))).cell? ⟨w.heap.size,2,none⟩ = some (.slice (some ⟨C,0,none⟩) n n):=hmid.kept.cell (hst.kept.cell HP2.out nP) nP;have HM:=hid hmid;have HT:=hid hst;clear hmid hst kf2
   by_cases hO : isO c = true
   ·have ho5:=gV hO
    by_cases hd : (stk (opF xs) k).length = 32
    ·have her : er (opF xs) k = 35:=by unfold er; rw [hcO,if_pos hO,if_pos hd]
     have hres : res (opF xs) n 0 = (35,(k : Int)):=pY;have HR:=hid hres
     have hdb : (((stk (opF xs) k).length : Int) == 32) = true:=by rw [hd]; rfl
     rw [cD] at hO;subst hob;clear hres her hd;generalize (stk (opF xs) k).length = dl at *;generalize top (stk (opF xs) k) = tp at *
     rcases hO with rfl | rfl | rfl
     all_goals
      go_wp2_with fail
      try rw [Exit.noGoto_ret]
      go_ret2;rw [HR.out];exact Dy
    ·have her : er (opF xs) k = 0:=by unfold er; rw [hcO,if_pos hO,if_neg hd]
     have hO' : isO (opF xs k) = true:=by rw [hcO]; exact hO
     have hNX:=HT.out.go hlt her (fun x => ho5.2 (hcO.symm.trans x.1)) (HM.out.en.congr (fun i _ => fp (by rw [hcO]; exact ho5.2))) (HM.out.el.congr (fun i _ => fF (by rw [hcO]; exact ho5.1))) HM.out.ow HM.out.kept
     have HNX:=hid hNX;have hlen:=jn HT.out.ok;have HSK:=hid (kq hO');have hdb : (((stk (opF xs) k).length : Int) == 32) = false:=aG
     have HDL:=hid (show (stk (opF xs) k).length + 1 = (stk (opF xs) (k + 1)).length by rw [kq hO']; rfl)
     rw [cD] at hO;subst hob;clear hNX her hd hO';generalize (stk (opF xs) k).length = dl at *;generalize top (stk (opF xs) k) = tp at *
     rcases hO with rfl | rfl | rfl
     all_goals
      go_wp2_with fail;refine ⟨⟨k + 1,ae,?_,?_,rfl,aX,HNX.out⟩,aZ⟩
      ·rw [HSK.out]; rfl
      ·rw [← HDL.out]; go_num
   have hO2:=mR vL;have hOf : isO (opF xs k) = false:=zA;obtain ⟨no2,no3,no4⟩:=hO2
   have b2 : (c == 2) = false:=by simpa using no2
   have b3 : (c == 3) = false:=by simpa using no3
   have b4 : (c == 4) = false:=by simpa using no4
   by_cases h5 : c = 5
   ·have hO5 : opF xs k = 5:=hcO.trans h5
    rcases cQ (opF xs) k with hs | ⟨t,ht,hOt,hs⟩
    ·have her : er (opF xs) k = 37:=D5;have hres : res (opF xs) n 0 = (37,(k : Int)):=pY;have HR:=hid hres;have htp : top (stk (opF xs) k) = -1:=jA;subst hob;subst h5;clear hres her hs;generalize (stk (opF xs) k).length = dl at *;rw [htp] at x0 r0 r1 r2 HM ⊢;exact Af
    ·have htp : top (stk (opF xs) k) = (t : Int):=jA;have htn : t < n:=ae
     have hct : ((wr.alloc ob).setCell ⟨C,k,none⟩ (.int .i64 (top (stk (opF xs) k)))).cell? ⟨b,off + t * 3,none⟩ = some (.int .u8 (opF xs t)):=HM.out.kept.cell (HT.out.kept.cell (HKF.out.cell (HC.out.op htn) (fun x => x)) nb) nb
     have het : ((wr.alloc ob).setCell ⟨C,k,none⟩ (.int .i64 (top (stk (opF xs) k)))).cell? ⟨B,t,none⟩ = some (.int .i64 (elF (opF xs) k t)):=HM.out.el.cell t htn;have hft : ((wr.alloc ob).setCell ⟨C,k,none⟩ (.int .i64 (top (stk (opF xs) k)))).frozen? ⟨B,t,none⟩ = false:=HM.out.el.free t
     have hern : ¬ (opF xs t = 4 ∧ elF (opF xs) k t = -1) → res (opF xs) n 0 = (37,(k : Int)):=fun hx => by
      exact Ij
     have tb : ((t : Int) == -1) = false:=ak;rw [htp] at x0 r0 r1 r2 HM hct het hft ⊢
     by_cases h4 : opF xs t = 4
     ·rw [h4] at hct
      by_cases hel : elF (opF xs) k t = -1
      ·rw [hel] at het
       have her : er (opF xs) k = 0:=by unfold er; rw [if_neg qL,if_pos hO5,hs]; simp only; rw [if_pos ⟨h4,hel⟩]
       have PB:=HM.out.el.put (g:=elF (opF xs) (k + 1)) t k (fun i hi => rI hO5 hs i)
       have hNX:=HT.out.go hlt her (fun x => by have:=x.1; omega) ((HM.out.en.congr (fun i _ => fp ae)).kept PB.2 hAB) PB.1 (HM.out.ow.kept PB.2 (fun x => hBC x.symm)) (HM.out.kept.trans (PB.2.mono (fun k hk => .inr (.inl hk))))
       have HNX:=hid hNX;have HSK:=hid (iw hOf ae);have HTP:=hid htp;subst hob;subst h5;clear hNX her PB hel h4 hern hs htp;generalize hdl : (stk (opF xs) k).length = dl at *;go_wp2_with fail;refine ⟨⟨k + 1,ae,?_,?_,rfl,aX,HNX.out⟩,aZ⟩
       ·rw [HSK.out,HTP.out]
       ·rw [HSK.out,hdl]
      ·have HR:=hid (hern (fun x => hel x.2))
       have eb : (elF (opF xs) k t == -1) = false:=by simpa using hel
       have ebn : (elF (opF xs) k t != -1) = true:=by simpa using hel
       subst hob;subst h5;clear hern hs htp h4 hel;generalize (stk (opF xs) k).length = dl at *;generalize elF (opF xs) k t = ev at *;exact Af
     ·have HR:=hid (hern (fun x => h4 x.1))
      have eb : (opF xs t == 4) = false:=qo;have ebn : (opF xs t != 4) = true:=qo;have hrt:=HC.out.range htn;subst hob;subst h5;clear hern hs htp h4;generalize (stk (opF xs) k).length = dl at *;generalize opF xs t = ct at *;exact Af
   have b5 : (c == 5) = false:=qO
   have her : er (opF xs) k = 0:=by unfold er; rw [if_neg qL,if_neg uJ]
   by_cases h6 : c = 6
   ·have hO6 : opF xs k = 6:=hcO.trans h6
    rcases cQ (opF xs) k with hs | ⟨t,ht,hOt,hs⟩
    ·have hres:=(HT.out.rest).symm.trans (qb hlt her ⟨hO6,hs⟩);have htp : top (stk (opF xs) k) = -1:=jA;have hfin : RI ((wr.alloc ob).setCell ⟨C,k,none⟩ (.int .i64 (top (stk (opF xs) k)))) A n (enF (opF xs) (k + 1)) ∧ RI ((wr.alloc ob).setCell ⟨C,k,none⟩ (.int .i64 (top (stk (opF xs) k)))) B n (elF (opF xs) (k + 1)) ∧ RI ((wr.alloc ob).setCell ⟨C,k,none⟩ (.int .i64 (top (stk (opF xs) k)))) C n (owF (opF xs) (k + 1)) :=
      ⟨HM.out.en.congr (fun i _ => qV hs i),HM.out.el.congr (fun i _ => qg hs i),HM.out.ow⟩
     have HF:=hid hfin;have HR:=hid hres;have kb : ((k : Int) + 1 == 0) = false:=aG;subst hob;subst h6;clear hres her hs hfin;generalize (stk (opF xs) k).length = dl at *;rw [htp] at x0 r0 r1 r2 HM HF ⊢
     by_cases hl : k + 1 = n
     ·have hl1 : ¬ (k : Int) + 1 < (n : Int):=ae;go_wp2_with fail
      try rw [Exit.noGoto_ret]
      go_ret2;rw [HR.out,if_pos hl];subst hl
      exact ⟨rfl,fun _ => HF.out,HKW.out.trans (HT.out.kept.trans HM.out.kept)⟩
     ·have hl1 : (k : Int) + 1 < (n : Int):=ae;go_wp2_with fail
      try rw [Exit.noGoto_ret]
      go_ret2;rw [HR.out,if_neg hl];exact Dy
    ·have htp : top (stk (opF xs) k) = (t : Int):=jA;have htn : t < n:=ae;have hiv:=sJ HT.out.ok
     have hel : elF (opF xs) k t = -1 ∨ ∃ j : Nat,elF (opF xs) k t = j ∧ j < n:=by
      rcases hiv.els t with h | ⟨j,a1,a2,a3,_⟩
      ·exact .inl h
      ·exact .inr ⟨j,a1,ae⟩
     have HE:=hid (Sl A B C n t k _ _ _ hn htn hAB HM.out.en HM.out.el hel)
     have hs1 : stk (opF xs) (k + 1) = stk (opF xs) t:=by rw [pN hO6,hs]; rfl
     have HS1:=hid hs1;have hdl : (stk (opF xs) k).length = (stk (opF xs) t).length + 1:=jA
     have hen : ∀ i,enF (opF xs) (k + 1) i = if i = t ∨ (i : Int) = elF (opF xs) k t then (k : Int) else enF (opF xs) k i:=fun i => pK hO6 hs i
     have HEN:=hid hen;have hlen:=jn HT.out.ok;rw [hdl] at hlen
     have hb6 : ¬ (opF xs k = 6 ∧ stk (opF xs) k = []):=fun x => by rw [hs] at x; cases x.2
     have HB6:=hid hb6;have tb : ((t : Int) == -1) = false:=ak;subst hob;subst h6;rw [hdl];rw [htp] at x0 r0 r1 r2 HM HE ⊢;unfold nr at HE;clear hs hs1 hdl hen hb6 hiv hel htp;go_wp2_with fail;refine HE.out.mono ?_;rintro e w4 ⟨rfl,en4,kp4⟩;have z2 : w4.cell? ⟨w.heap.size,2,none⟩ = some (.slice (some ⟨C,0,none⟩) n n):=kp4.cell r2 ae
     have z3 : w4.cell? ⟨C,t,none⟩ = some (.int .i64 (owF (opF xs) (k + 1) t)):=(HM.out.ow.kept kp4 (fun x => hAC x.symm)).cell t htn
     have z4 : owF (opF xs) (k + 1) t = top (stk (opF xs) t):=by unfold owF; rw [if_pos ae]
     rw [z4] at z3
     have hNX:=HT.out.go hlt her HB6.out (en4.congr (fun i _ => HEN.out i)) ((HM.out.el.congr (fun i _ => fF ae)).kept kp4 (fun x => hAB x.symm)) (HM.out.ow.kept kp4 (fun x => hAC x.symm)) (HM.out.kept.trans (kp4.mono (fun k hk => .inl hk)))
     have HNX:=hid hNX;have HZ:=hid z4;clear hNX en4 kp4 z4 her;generalize hdt : (stk (opF xs) t).length = dt at *;generalize htt : top (stk (opF xs) t) = tt at *;go_wp2_with fail;refine ⟨⟨k + 1,ae,?_,?_,rfl,aX,HNX.out⟩,aZ⟩
     ·rw [HS1.out,htt]
     ·rw [HS1.out,hdt]
   ·have b6 : (c == 6) = false:=lD
    have hNX:=HT.out.go hlt her (fun x => h6 (hcO.symm.trans x.1)) (HM.out.en.congr (fun i _ => fp t6)) (HM.out.el.congr (fun i _ => fF uJ)) HM.out.ow HM.out.kept
    have HNX:=hid hNX;have HSK:=hid (iw hOf t6);subst hob;clear hNX her hO hOf;generalize hdl : (stk (opF xs) k).length = dl at *;generalize htp : top (stk (opF xs) k) = tp at *;go_wp2_with fail;refine ⟨⟨k + 1,ae,?_,?_,rfl,aX,HNX.out⟩,aZ⟩
    ·rw [HSK.out,htp]
    ·rw [HSK.out,hdl]
  ·obtain rfl : k = n:=ae
   have hres : res (opF xs) k 0 = (38,(k : Int)):=by rw [← hst.rest,Nat.sub_self]; rfl
   have HR:=hid hres;have HT:=hid hst;clear hres hst;generalize (stk (opF xs) k).length = dl at *;generalize top (stk (opF xs) k) = tp at *;go_wp2_with fail
   try rw [Exit.noGoto_ret]
   go_ret2;rw [HR.out]
   exact ⟨rfl,(fun h => cE),HKW.out.trans HT.out.kept⟩
theorem walk_nil (A B C cap : Nat) (a : Option Addr) (w : World) :
  Calls Tryz.prog 90 #[nr A B C 0,.slice a 0 cap] w fun e w' => e = .returned (.tuple #[.int .i64 38,.int .i64 0]) ∧ Kept (fun _ => False) w w':=by
 unfold nr
 have HK:=hid (Kept.alloc (fun _ => False) w (Obj.cells #[Value.slice (some ⟨A,0,none⟩) 0 0,.slice (some ⟨B,0,none⟩) 0 0,.slice (some ⟨C,0,none⟩) 0 0] 78))
 go_enter Tryz.func90,Tryz.ntmps90
 go_wp2_with fail
 go_step3
 go_wp2_with fail
 go_step3
 go_wp2_with fail;refine wp_loop_rounds 1 ?_;rw [rounds_succ];go_wp2_with fail
 try rw [Exit.noGoto_ret]
 go_ret2;exact ⟨rfl,HK.out⟩
abbrev Fz : Value:=.slice none 0 0
def MK (O : Nat → Int) (n base : Nat) (w : World) (a1 a2 a3 : Option Addr) (m : Nat) : Prop :=
 ((res O n 0).1 ≠ 0 ∧ a1 = none ∧ a2 = none ∧ a3 = none ∧ m = 0) ∨
 (res O n 0 = (0,0) ∧ Good O n ∧ m = n ∧ ∃ A B C,base ≤ A ∧ base ≤ B ∧ base ≤ C ∧ A ≠ B ∧ A ≠ C ∧ B ≠ C ∧ a1 = some ⟨A,0,none⟩ ∧ a2 = some ⟨B,0,none⟩ ∧ a3 = some ⟨C,0,none⟩ ∧
  RI w A n (enF O n) ∧ RI w B n (elF O n) ∧ RI w C n (owF O n))
theorem MK.keep {O : Nat → Int} {n base base' m : Nat} {w w' : World} {a1 a2 a3 : Option Addr} {S : Nat → Prop} (h : MK O n base w a1 a2 a3 m) (hk : Kept S w w') (hs : ∀ k,base ≤ k → ¬ S k) (hb : base' ≤ base) : MK O n base' w' a1 a2 a3 m:=by
 rcases h with h | ⟨g1,g2,g3,A,B,C,x1,x2,x3,x4,x5,x6,x7,x8,x9,y1,y2,y3⟩
 ·exact .inl h
 ·exact .inr ⟨g1,g2,g3,A,B,C,ae,ae,ae,x4,x5,x6,x7,x8,x9,y1.kept hk (hs A x1),y2.kept hk (hs B x2),y3.kept hk (hs C x3)⟩
theorem bA {B : Nat} {w w1 w2 : World} {S : Nat → Prop} (h : Below B w w1) (hk : Kept S w1 w2) (hB : B ≤ w1.heap.size) (hs : ∀ k,S k → B ≤ k) : Below B w w2 :=
 ⟨hk.os.trans h.os,hk.tape.trans h.tape,hk.output.trans h.output,Nat.le_trans h.size hk.size,fun k hx => (hk.block k ae (fun x => by have:=hs k x; omega)).trans (h.block k hx)⟩
theorem dE {fn : Func} {t u v x y : Tmp} (h : fn.results = #[.tmp t,.tmp u,.tmp v,.tmp x,.tmp y]) (tmps : Array Value) (P : Program) (w : World) :
  (results fn tmps).run P w = .ok (.tuple #[tmps.getD t undef,tmps.getD u undef,tmps.getD v undef,tmps.getD x undef,tmps.getD y undef]) w:=by
 simp [results,h]
theorem PN (a : Option Addr) (n cap : Nat) (xs : List Inx) (w : World) (hn : n ≤ 1048576) (hcap : n ≤ cap) (hc : zn w a n xs) :
  Calls Tryz.prog 51 #[.slice a n cap] w fun e w' => ∃ a1 a2 a3 m,e = .returned (.tuple #[.slice a1 m m,.slice a2 m m,.slice a3 m m,.int .i64 (res (opF xs) n 0).1,.int .i64 (res (opF xs) n 0).2]) ∧ MK (opF xs) n w.heap.size w' a1 a2 a3 m ∧ Below w.heap.size w w':=by
 have H1:=hid (blank n w hn);have HC:=hid hc;clear hc
 go_enter Tryz.func51,Tryz.ntmps51
 go_wp2_with fail;refine H1.out.mono ?_;rintro e w1 ⟨A,rfl,hA0,hA,hb1⟩;have H2:=hid (blank n w1 hn);go_wp2_with fail;refine H2.out.mono ?_;rintro e w2 ⟨B,rfl,hB0,hB,hb2⟩;have H3:=hid (blank n w2 hn);go_wp2_with fail;refine H3.out.mono ?_;rintro e w3 ⟨C,rfl,hC0,hC,hb3⟩;have hAl:=hA.lt;have hBl:=hB.lt;have hCl:=hC.lt;have hs1:=hb1.size;have hs2:=hb2.size;have hs3:=hb3.size;have hAB : A ≠ B:=ae;have hAC : A ≠ C:=ae;have hBC : B ≠ C:=ae;have k2:=Kept.of_below hb2;have k3:=Kept.of_below hb3;have hA3:=(hA.kept k2 ae).kept k3 ae;have hB3:=hB.kept k3 ae;have hbw : Below w.heap.size w w3:=(hb1.trans (hb2.mono hs1)).trans (hb3.mono ae);obtain ⟨op,hop⟩ : ∃ op,op = Obj.cells #[Value.slice (some ⟨A,0,none⟩) n n,.slice (some ⟨B,0,none⟩) n n,.slice (some ⟨C,0,none⟩) n n] 78:=⟨_,rfl⟩
 have kf:=Kept.alloc (fun _ => False) w3 op
 have hbp : Below w.heap.size w (w3.alloc op):=hbw.alloc ae op
 have hA4:=hA3.kept kf (fun x => x)
 have hB4:=hB3.kept kf (fun x => x)
 have hC4:=hC.kept kf (fun x => x)
 have p0 : (w3.alloc op).cell? ⟨w3.heap.size,0,none⟩ = some (.slice (some ⟨A,0,none⟩) n n):=Av;have p1 : (w3.alloc op).cell? ⟨w3.heap.size,1,none⟩ = some (.slice (some ⟨B,0,none⟩) n n):=Av;have p2 : (w3.alloc op).cell? ⟨w3.heap.size,2,none⟩ = some (.slice (some ⟨C,0,none⟩) n n):=Av;have nP : ¬ (w3.heap.size = A ∨ w3.heap.size = B ∨ w3.heap.size = C):=ae
 have hwalk : Calls Tryz.prog 90 #[nr A B C n,.slice a n cap] (w3.alloc op) fun e w' => e = .returned (.tuple #[.int .i64 (res (opF xs) n 0).1,.int .i64 (res (opF xs) n 0).2]) ∧
   ((res (opF xs) n 0).1 = 0 → RI w' A n (enF (opF xs) n) ∧ RI w' B n (elF (opF xs) n) ∧ RI w' C n (owF (opF xs) n)) ∧ Kept (fun k => k = A ∨ k = B ∨ k = C) (w3.alloc op) w':=by
  have hcs:=HC.out.later hbp (Nat.le_refl _)
  by_cases h0 : n = 0
  ·subst h0
   refine (walk_nil A B C cap a _).mono fun e w' ⟨he,hk⟩ => ⟨by rw [he]; rfl,(fun h => cE),hk.mono (fun _ x => x.elim)⟩
  ·rcases hcs.2 with hc | ⟨b,off,rfl,hc⟩
   ·exact absurd hc h0
   have hb : b < w.heap.size:=by
    rcases HC.out.2 with hx | ⟨b',off',e,hx⟩
    ·exact absurd hx h0
    ·injection e with e; injection e with e1; subst e1; exact hx.lt ae
   exact walk_in A B C b off n cap xs _ hn hcap ae hc hAB hAC hBC ae ae ae hA4 hB4 hC4
 have HW:=hid hwalk;have HB:=hid hbp;unfold nr at HW;have hge : w.heap.size ≤ w3.heap.size:=ae;have hsz : (w3.alloc op).heap.size = w3.heap.size + 1:=ak;subst hop;clear hwalk hA hB hC hA3 hB3 hA4 hB4 hC4 kf k2 k3 hbw hbp hb1 hb2 hb3 hs1 hs2 hs3;go_wp2_with fail;refine HW.out.mono ?_;rintro e w5 ⟨rfl,hR,hk⟩;have z0:=hk.cell p0 nP;have z1:=hk.cell p1 nP;have z2:=hk.cell p2 nP
 have HB5:=hid (bA HB.out hk ae (fun k hx => ae))
 have HR:=hid hR;clear hR hk
 by_cases h0 : (res (opF xs) n 0).1 = 0
 ·have hg:=ku h0;have HRR:=hid (sA hg);have HG:=hid hg;have hz : ((res (opF xs) n 0).1 == 0) = true:=oL;have hz' : ((res (opF xs) n 0).1 != 0) = false:=oL;have H0:=hid h0;clear h0 hg;generalize hr1 : (res (opF xs) n 0).1 = r1 at *;generalize hr2 : (res (opF xs) n 0).2 = r2 at *;go_wp2_with fail
  go_quiet (fail)
  go_wp2_with fail
  (try simp only [Exit.inBlock,Exit.then])
  refine bodyPost_ret (dE rfl _ _ _) rfl ?_;have e1 : r1 = 0:=H0.out
  have e2 : r2 = 0:=by rw [← hr2,HRR.out]
  have kd:=Kept.drewN (fun _ => False) w5 nq
  obtain ⟨R1,R2,R3⟩:=HR.out e1
  refine ⟨_,_,_,_,by rw [hr1,hr2,e1,e2]; rfl,?_,bA HB5.out kd HB5.out.size (fun _ x => x.elim)⟩
  exact .inr ⟨HRR.out,HG.out,rfl,A,B,C,ae,ae,ae,hAB,hAC,hBC,rfl,rfl,rfl,R1.kept kd (fun x => x),R2.kept kd (fun x => x),R3.kept kd (fun x => x)⟩
 ·have hz : ((res (opF xs) n 0).1 == 0) = false:=fV;have hz' : ((res (opF xs) n 0).1 != 0) = true:=fV;have H0:=hid h0;clear h0;generalize hr1 : (res (opF xs) n 0).1 = r1 at *;generalize hr2 : (res (opF xs) n 0).2 = r2 at *;go_wp2_with fail
  (try simp only [Exit.inBlock,Exit.then])
  refine bodyPost_ret (dE rfl _ _ _) rfl ?_
  refine ⟨_,_,_,_,by rw [hr1,hr2]; rfl,.inl ⟨?_,rfl,rfl,rfl,rfl⟩,HB5.out⟩
  rw [hr1]; exact H0.out
def dG (O : Nat → Int) (i : Nat) : List Int:=(stk O i).map (fun t : Nat => (t : Int)) ++ [-1]
def rst (O : Nat → Int) (q : Int) : List Int:=if q = -1 then [] else dG O q.toNat
theorem sU (O : Nat → Int) (i : Nat) : dG O i = top (stk O i) :: rst O (top (stk O i)):=by
 rcases cQ O i with h | ⟨t,ht,hO,h⟩
 ·unfold dG; rw [h]; rfl
 ·unfold dG; rw [h]
  have : ¬ (t : Int) = -1:=ae
  simp [top,rst,this,dG]
theorem GX (O : Nat → Int) (i : Nat) : -1 ≤ top (stk O i) ∧ top (stk O i) < i:=by
 rcases cQ O i with h | ⟨t,ht,hO,h⟩
 ·rw [h]; simp [top]; omega
 ·rw [h]; simp [top]; omega
theorem J8 {O : Nat → Int} {k : Nat} (h : Okp O k) : (dG O k).length ≤ 33:=by
 have:=jn h
 simp [dG]; exact this
theorem ra {O : Nat → Int} {n i : Nat} (h : Good O n) (hi : i < n) : Okp O i:=fun j hj => h.2.1 j ae
def tK (O : Nat → Int) (n : Nat) (pc : Int) : List Int:=if (res O n 0).1 = 0 ∧ 0 ≤ pc ∧ pc < n then dG O pc.toNat else []
def oth (O : Nat → Int) (n i : Nat) : Int:=if elF O n i = -1 then enF O n i else elF O n i + 1
theorem sH {O : Nat → Int} : ∀ (k i : Nat),-1 ≤ elF O k i ∧ elF O k i < k
 | 0,i => by simp [elF]
 | k + 1,i => by
  have ih:=sH (O:=O) k i;unfold elF
  split
  ·omega
  ·split <;> omega
theorem m8 {O : Nat → Int} {n : Nat} (h : Good O n) (i : Nat) : enF O n i = enF O (n - 1) i:=by
 have e : n = n - 1 + 1:=by have:=h.1; omega
 conv => lhs; rw [e]
 exact qV h.2.2.2.2 i
theorem pO {O : Nat → Int} {n : Nat} (h : Good O n) (i : Nat) : elF O n i = elF O (n - 1) i:=by
 have e : n = n - 1 + 1:=by have:=h.1; omega
 conv => lhs; rw [e]
 exact qg h.2.2.2.2 i
theorem kV {O : Nat → Int} {n i : Nat} (h : Good O n) (hi : i < n) (h6 : O i ≠ 6) : i < n - 1:=by
 have h1:=h.2.2.2.1
 have : i ≠ n - 1:=fun e => h6 (e ▸ h1)
 omega
theorem kR {O : Nat → Int} {n i : Nat} (h : Good O n) (hi : i < n) (hO : isO (O i) = true) : ∃ j : Nat,enF O n i = j ∧ i < j ∧ j < n - 1 ∧ O j = 6 ∧ stk O j = i :: stk O i ∧ elF O n i < j:=by
 have hiv:=sJ h.2.1
 rcases hiv.opn i (kV h hi (gV hO).2) hO with ⟨hm,_⟩ | ⟨_,j,h1,h2,h3,h4,h5,h6⟩
 ·rw [h.2.2.2.2] at hm; cases hm
 ·exact ⟨j,by rw [m8 h]; exact h1,h2,h3,h4,h5,by rw [pO h]; exact h6⟩
theorem yH {O : Nat → Int} {n i : Nat} (h : Good O n) : elF O n i = -1 ∨ ∃ j : Nat,elF O n i = j ∧ i < j ∧ j < n - 1 ∧ O i = 4 ∧ O j = 5 ∧ enF O n j = enF O n i:=by
 have hiv:=sJ h.2.1
 rcases hiv.els i with h1 | ⟨j,h1,h2,h3,h4,h5,_,h7⟩
 ·exact .inl (by rw [pO h]; exact h1)
 ·exact .inr ⟨j,by rw [pO h]; exact h1,h2,h3,h4,h5,by rw [m8 h,m8 h]; exact h7⟩
theorem oN {O : Nat → Int} {n i : Nat} (h : Good O n) (hi : i < n) (h5 : O i = 5) : elF O n i = -1 ∧ ∃ j : Nat,enF O n i = j ∧ i < j ∧ j < n - 1 ∧ O j = 6:=by
 have hiv:=sJ h.2.1
 constructor
 ·rcases yH (i:=i) h with h1 | ⟨j,_,_,_,h4,_⟩
  ·exact h1
  ·omega
 ·obtain ⟨t,ht,hx⟩:=hiv.elp i (kV h hi ae) h5
  rcases hiv.els t with h1 | ⟨j,h1,h2,h3,h4,h5',_,h7⟩
  ·omega
  ·have e : j = i:=ae;subst e
   obtain ⟨q,q1,q2,q3,q4,q5,q6⟩:=kR h (show t < n by omega) (cD.2 ae)
   refine ⟨q,?_,?_,q3,q4⟩
   ·rw [m8 h,h7,← m8 h]; exact q1
   ·rw [pO h] at q6; omega
theorem wZ (O : Nat → Int) : ∀ (k i t : Nat),(stk O i)[k]? = some t → stk O t = (stk O i).drop (k + 1)
 | 0,i,t,h => by
  rcases cQ O i with h0 | ⟨u,_,_,h0⟩
  ·rw [h0] at h; simp at h
  ·rw [h0] at h ⊢
   simp at h
   subst h; rfl
 | k + 1,i,t,h => by
  rcases cQ O i with h0 | ⟨u,_,_,h0⟩
  ·rw [h0] at h; simp at h
  ·rw [h0] at h
   simp only [List.getElem?_cons_succ] at h
   rw [h0,List.drop_succ_cons];exact wZ O k u t h
theorem yL (O : Nat → Int) (i : Nat) : (dG O i).length = (stk O i).length + 1:=by simp [dG]
theorem um {O : Nat → Int} {i k : Nat} (hk : k < (stk O i).length) : (dG O i).getD k 0 = ((stk O i)[k] : Nat):=by
 unfold dG
 rw [List.getD_eq_getElem?_getD,List.getElem?_append_left (by simpa using hk)]
 simp [hk]
theorem kM (O : Nat → Int) (i : Nat) : (dG O i).getD (stk O i).length 0 = -1:=by
 unfold dG;rw [List.getD_eq_getElem?_getD,List.getElem?_append_right ak]
 simp
theorem mP (O : Nat → Int) (i k : Nat) (hk : k ≤ (stk O i).length) : top ((stk O i).drop k) = (dG O i).getD k 0:=by
 by_cases h : k < (stk O i).length
 ·rw [um h,List.drop_eq_getElem_cons h]; rfl
 ·have e : k = (stk O i).length:=ae;subst e
  rw [kM,List.drop_length]; rfl
structure Jg where
 J : Nat
 L : Nat
 lc : Nat
 cb : Nat
 coff : Nat
 cc : Nat
 RB : Nat
 EN : Nat
 EL : Nat
 OW : Nat
 sb : Nat
 soff : Nat
 sc : Nat
 N : Nat
 m : MM
 R : ByteArray
 lo : List Int
 xs : List Inx
 sh : Nat → ByteArray
structure Jw (g : Jg) (w : World) : Prop where
 m0 : w.cell? ⟨g.J,0,none⟩ = some (.slice g.m.ta g.m.tn g.m.tc)
 m1 : w.cell? ⟨g.J,1,none⟩ = some (.slice g.m.ha g.m.hn g.m.hc)
 m2 : w.cell? ⟨g.J,2,none⟩ = some (.slice g.m.ga g.m.gn g.m.gc)
 m5 : w.cell? ⟨g.J,5,none⟩ = some (.slice g.m.fa g.m.fn g.m.fc)
 r : w.cell? ⟨g.J,8,none⟩ = some (.string g.R)
 l : w.cell? ⟨g.J,9,none⟩ = some (.slice (some ⟨g.L,0,none⟩) g.lo.length g.lc)
 c : w.cell? ⟨g.J,10,none⟩ = some (.slice (some ⟨g.cb,g.coff,none⟩) g.N g.cc)
 rw : w.cell? ⟨g.J,11,none⟩ = some (.slice (some ⟨g.RB,0,none⟩) g.N g.N)
 en : w.cell? ⟨g.J,12,none⟩ = some (.slice (some ⟨g.EN,0,none⟩) g.N g.N)
 el : w.cell? ⟨g.J,13,none⟩ = some (.slice (some ⟨g.EL,0,none⟩) g.N g.N)
 ow : w.cell? ⟨g.J,14,none⟩ = some (.slice (some ⟨g.OW,0,none⟩) g.N g.N)
 s : w.cell? ⟨g.J,15,none⟩ = some (.slice (some ⟨g.sb,g.soff,none⟩) g.N g.sc)
 lcs : ∀ (j : Nat) x,g.lo[j]? = some x → w.cell? ⟨g.L,j,none⟩ = some (.int .u8 x)
 cod : Cod w g.cb g.coff g.N g.xs
 rows : ∀ j,j < g.N → ∀ q,q < 6 → w.cell? ⟨g.RB,j * 6 + q,none⟩ = (rv (ofV (opF g.xs j)).1)[q]?
 enc : RI w g.EN g.N (enF (opF g.xs) g.N)
 elc : RI w g.EL g.N (elF (opF g.xs) g.N)
 owc : RI w g.OW g.N (owF (opF g.xs) g.N)
 shs : ∀ j,j < g.N → w.cell? ⟨g.sb,g.soff + j,none⟩ = some (.string (g.sh j))
 pt : eA w g.m.ta g.m.tn g.m.types
 ph : iN w g.m.ha g.m.hn g.m.hosts
 pg : jf w g.m.ga g.m.gn g.m.globals
 pf : i7 w g.m.fa g.m.fn g.m.fns
theorem Jw.later {g : Jg} {w w' : World} (h : Jw g w) (hb : Below w.heap.size w w') : Jw g w':=by
 have hk : Kept (fun _ => False) w w':=az hb
 refine ⟨ag hb h.m0,ag hb h.m1,ag hb h.m2,ag hb h.m5,ag hb h.r,ag hb h.l,ag hb h.c,ag hb h.rw,ag hb h.en,ag hb h.el,ag hb h.ow,ag hb h.s,
  fun j x hj => ag hb (h.lcs j x hj),h.cod.later hb (Nat.le_refl _),fun j hj q hq => ?_,h.enc.kept hk id,h.elc.kept hk id,h.owc.kept hk id,fun j hj => ag hb (h.shs j hj),
  h.pt.kept hk (fun _ _ _ _ => id),h.ph.kept hk (fun _ _ _ _ => id),h.pg.kept hk (fun _ _ _ _ => id),h.pf.kept hk (fun _ _ _ _ => id)⟩
 have e:=h.rows j hj q hq
 obtain ⟨u,hu⟩ : ∃ u,(rv (ofV (opF g.xs j)).1)[q]? = some u:=by
  have : q < (rv (ofV (opF g.xs j)).1).size:=hq;exact ⟨_,Array.getElem?_eq_getElem this⟩
 rw [hu] at e ⊢;exact ag hb e
def dH (O : Nat → Int) (i : Nat) (a : Int) : Int × Bool:=if a < 0 then (top (stk O i),false) else if a ≤ (stk O i).length then ((dG O i).getD a.toNat 0,true) else (-1,false)
theorem xb {O : Nat → Int} {i k : Nat} (hk : k < (stk O i).length) : ∃ t : Nat,(dG O i).getD k 0 = t ∧ t < i ∧ top (stk O t) = (dG O i).getD (k + 1) 0:=by
 have hs : (stk O i)[k]? = some (stk O i)[k]:=aN hk;refine ⟨(stk O i)[k],um hk,(nE O i _ (List.getElem_mem hk)).1,?_⟩;rw [wZ O k i _ hs,mP O i (k + 1) ae]
section
variable {g : Jg} {w : World}
theorem Hw (h : Jw g w) (hN : g.N ≤ 2048) {i : Nat} (hi : i < g.N) {a : Int} (a0 : -9223372036854775808 ≤ a) (a1 : a ≤ 9223372036854775807) :
  Calls Tryz.prog 263 #[.pointer (some ⟨g.J,0,none⟩),.int .i64 i,.int .i64 a] w fun e w' => e = .returned (.tuple #[.int .i64 (dH (opF g.xs) i a).1,.bool (dH (opF g.xs) i a).2]) ∧ w' = w:=by
 have o0:=h.ow
 have o1 : w.cell? ⟨g.OW,i,none⟩ = some (.int .i64 ((dG (opF g.xs) i).getD 0 0)):=by
  rw [h.owc.cell i hi]
  have : owF (opF g.xs) g.N i = (dG (opF g.xs) i).getD 0 0:=by
   unfold owF;rw [if_pos hi,← mP (opF g.xs) i 0 (Nat.zero_le _)];rfl
  rw [this]
 have HO:=hid h.owc;have hi2 : (i : Int) < (g.N : Int):=ae;clear h;generalize g.N = N at *;generalize g.OW = OW at *;generalize g.J = J at *;generalize opF g.xs = O at *
 go_enter Tryz.func263,Tryz.ntmps263
 go_wp2_with fail;clear o1
 go_loopw [2,8] (fun nu op wr => ∃ k : Nat,k ≤ (stk O i).length ∧ nu = .int .i64 (a - k) ∧ op = .int .i64 ((dG O i).getD k 0) ∧ (k = 0 ∨ 0 ≤ a - k) ∧ wr = w) (fun nu _ _ => (intOf nu).toNat)
 case atStart => exact ⟨0,Nat.zero_le _,ak,rfl,.inl rfl,rfl⟩
 case round =>
  obtain ⟨k,hk,rfl,rfl,hka,rfl⟩:=hrel
  by_cases g0 : 0 < a - k
  ·by_cases hkl : k < (stk O i).length
   ·obtain ⟨t,ht,hti,htop⟩:=xb (O:=O) hkl
    have g1 : (((dG O i).getD k 0) != (-1 : Int)) = true:=by rw [ht]; simp
    have o1 : wr.cell? ⟨OW,t,none⟩ = some (.int .i64 ((dG O i).getD (k + 1) 0)):=by
     rw [HO.out.cell t ae]
     have : owF O N t = (dG O i).getD (k + 1) 0:=by
      unfold owF;rw [if_pos ae,htop]
     rw [this]
    have htN : (t : Int) < (N : Int):=ae;have HT:=hid ht;rw [ht] at g1 ⊢;obtain ⟨nx,hnx⟩ : ∃ nx,nx = (dG O i).getD (k + 1) 0:=⟨_,rfl⟩;have HNX:=hid hnx;rw [← hnx] at o1;clear hnx;clear ht htop hka;have HG:=hid g0;have d0 : decide ((0 : Int) < a - k) = true:=gh;go_wp2_with fail
    exact ⟨⟨k + 1,ae,by congr 1; omega,by rw [HNX.out],.inr ae,trivial⟩,aZ⟩
   ·have hke : k = (stk O i).length:=ae
    have hl1 : (dG O i).getD k 0 = -1:=by rw [hke]; exact kM O i
    have hv : dH O i a = (-1,false):=by
     unfold dH;rw [if_neg ae,if_neg ae]
    have g1 : ((-1 : Int) != (-1 : Int)) = false:=rfl;have g2 : (a - k == (0 : Int)) = false:=aG;have d0 : decide ((0 : Int) < a - k) = true:=gh;rw [hl1];have HV:=hid hv;clear hl1 hv hka hke;go_wp2_with fail;go_ret2;exact ⟨cd,rfl⟩
  ·have d0 : decide ((0 : Int) < a - k) = false:=gh
   have hv : dH O i a = ((dG O i).getD k 0,(a - k == (0 : Int))):=by
    unfold dH
    by_cases ha : a < 0
    ·have : k = 0:=ae;subst this;rw [if_pos ha,← mP O i 0 (Nat.zero_le _)];have : (a - (0 : Nat) == (0 : Int)) = false:=aG
     rw [this]; rfl
    ·have : a = k:=ae;rw [if_neg ha,if_pos ae,this]
     simp
   obtain ⟨ov,hov⟩ : ∃ ov,ov = (dG O i).getD k 0:=⟨_,rfl⟩;rw [← hov] at hv;rw [← hov];have HV:=hid hv;clear hv hka g0 hov
   have d1 : ¬ (0 : Int) < a - k:=by simpa using d0
   go_wp2_with fail;go_ret2;exact ⟨cd,rfl⟩
end
end Go.Proofs.YtepnnenohjfkbaaGreatDoor
