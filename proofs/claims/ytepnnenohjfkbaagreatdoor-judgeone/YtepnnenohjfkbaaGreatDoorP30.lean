/-
  Texts Blank Walk Map.
-/
import Derived.BigQuiet
import Derived.Deep.QuietTactic
import Derived.WalkMore
import Derived.Test.YtepnnenohjfkbaaGreatDoorP00
import Derived.Test.YtepnnenohjfkbaaGreatDoorP29
set_option linter.unusedVariables false
set_option maxRecDepth 100000
set_option maxHeartbeats 16000000
namespace Go.Proofs.YtepnnenohjfkbaaGreatDoor
open Go.RowKit
theorem qE {w wr : World} {B n k : Nat} (hlt : k < n) (h : RI wr B n (fun i => if i < k then -1 else 0)) (hb : Below w.heap.size w wr) (hB : w.heap.size ≤ B) :
  RI (wr.setCell ⟨B,k,none⟩ (.int .i64 (-1))) B n (fun i => if i < k + 1 then -1 else 0) ∧ Below w.heap.size w (wr.setCell ⟨B,k,none⟩ (.int .i64 (-1))):=by
 refine ⟨(h.put k (-1) (fun i hi => ?_)).1,hb.setCell (by simpa using hB) _⟩
 split <;> split <;> (try split) <;> omega
theorem blank (n : Nat) (w : World) (hn : n ≤ 1048576) :
  Calls Tryz.prog 89 #[.int .i64 n] w fun e w' => ∃ B,e = .returned (.slice (some ⟨B,0,none⟩) n n) ∧ w.heap.size ≤ B ∧ RI w' B n (fun _ => -1) ∧ Below w.heap.size w w':=by
 obtain ⟨i0,hi,hz0,hz1,hz2⟩:=info_parts Tryz.infInts
 have hb2 : i0.bytes * n ≤ 281474976710656:=by rw [hz2]; omega
 have hml : n ≤ maxLen:=by unfold maxLen; omega
 go_enter Tryz.func89,Tryz.ntmps89
 go_wp2_with (first | (at_make; refine wpList_make_full _ rfl _ _ 23 rfl w.heap.size 3 i0 (.int .i64 0) 1 Tryz.underlying23 hi hz0 hz1 .i64 .i64 _ _ n rfl rfl (by omega) (by omega) hb2 hml (Nat.le_refl _) ?_; intro w1 hown hgrow))
 have hown0 : RI w1 w.heap.size n (fun i => if i < 0 then -1 else 0):=by
  have e : (madeCells (Value.int .i64 0).cells (n * 1)).toList = fl n (fun i => if i < 0 then -1 else 0):=by
   rw [Nat.mul_one]; refine (toList_madeCells_one _ _).trans ?_
   apply List.ext_getElem?
   intro j
   by_cases hj : j < n
   ·rw [k9 n _ j hj]; simp [hj]
   ·rw [List.getElem?_eq_none (by simp; omega),List.getElem?_eq_none (by rw [gV]; omega)]
  unfold RI
  rw [← e]; exact Row.of hown
 have hbel : Below w.heap.size w w1:=(Below.refl _ _).grown hgrow (Nat.le_refl _) (by simp)
 clear hown hgrow hi hz0 hz1 hz2 hb2 hml
 go_loopw [9] (fun i wr => ∃ k : Nat,k ≤ n ∧ i = .int .i64 k ∧ RI wr w.heap.size n (fun i => if i < k then -1 else 0) ∧ Below w.heap.size w wr) (fun i _ => n - (intOf i).toNat)
 case atStart => exact ⟨0,by omega,rfl,hown0,hbel⟩
 case round =>
  obtain ⟨k,hk,rfl,hown,hb⟩:=hrel;clear hown0 hbel
  by_cases hlt : k < n
  ·have hst:=qE hlt hown hb (Nat.le_refl _);have hcl:=hown.cell k hlt;have hfz:=hown.free k;have HS:=hid hst;clear hst hb hown;go_wp2;have R:=HS.out
   exact ⟨⟨k + 1,by omega,by go_num,R.1,R.2⟩,by simp [intOf]; omega⟩
  ·obtain rfl : k = n:=by omega
   have HB:=hid hb;have HO:=hid hown;clear hb hown;go_wp2;go_ret
   exact ⟨_,rfl,Nat.le_refl _,HO.out.congr (fun i hi => by simp [hi]),HB.out⟩
def iw (A B C n : Nat) : Value:=.agg #[.slice (some ⟨A,0,none⟩) n n,.slice (some ⟨B,0,none⟩) n n,.slice (some ⟨C,0,none⟩) n n]
theorem Be (A B C n t pc : Nat) (en el : Nat → Int) (w : World) (hn : n ≤ 1048576) (ht : t < n) (hAB : A ≠ B) (hA : RI w A n en) (hB : RI w B n el) (hel : el t = -1 ∨ ∃ j : Nat,el t = j ∧ j < n) :
  Calls Tryz.prog 139 #[iw A B C n,.int .i64 t,.int .i64 pc] w fun e w' => e = .returned (.tuple #[]) ∧ RI w' A n (fun i => if i = t ∨ (i : Int) = el t then (pc : Int) else en i) ∧ Kept (fun k => k = A) w w':=by
 unfold iw;have hAl:=hA.lt;have hBl:=hB.lt;obtain ⟨o,ho⟩ : ∃ o,o = Obj.cells #[Value.slice (some ⟨A,0,none⟩) n n,.slice (some ⟨B,0,none⟩) n n,.slice (some ⟨C,0,none⟩) n n] 78:=⟨_,rfl⟩
 have k0:=Kept.alloc (fun k => k = A) w o
 have hA1:=hA.kept (Kept.alloc (fun _ => False) w o) (fun x => x)
 have hB1:=hB.kept (Kept.alloc (fun _ => False) w o) (fun x => x)
 have hAn : ¬ A = w.heap.size:=by omega
 have hBn : ¬ B = w.heap.size:=by omega
 have g1 : (w.alloc o).cell? ⟨A,t,none⟩ = some (.int .i64 (en t)):=hA1.cell t ht;have g2 : (w.alloc o).frozen? ⟨A,t,none⟩ = false:=hA1.free t
 have P1:=hA1.put (g:=fun i => if i = t then (pc : Int) else en i) t pc (fun i hi => rfl)
 have g3 : ((w.alloc o).setCell ⟨A,t,none⟩ (.int .i64 pc)).cell? ⟨B,t,none⟩ = some (.int .i64 (el t)):=(hB1.kept P1.2 (fun x => hAB x.symm)).cell t ht
 have hp0 : (w.alloc o).cell? ⟨w.heap.size,0,none⟩ = some (.slice (some ⟨A,0,none⟩) n n):=by rw [ho,World.cell?_alloc_new]; rfl
 have hp1 : (w.alloc o).cell? ⟨w.heap.size,1,none⟩ = some (.slice (some ⟨B,0,none⟩) n n):=by rw [ho,World.cell?_alloc_new]; rfl
 have g4 : ((w.alloc o).setCell ⟨A,t,none⟩ (.int .i64 pc)).cell? ⟨w.heap.size,0,none⟩ = some (.slice (some ⟨A,0,none⟩) n n):=P1.2.cell hp0 (fun x => hAn x.symm)
 have g5 : ((w.alloc o).setCell ⟨A,t,none⟩ (.int .i64 pc)).cell? ⟨w.heap.size,1,none⟩ = some (.slice (some ⟨B,0,none⟩) n n):=P1.2.cell hp1 (fun x => hAn x.symm)
 have HP:=hid P1;have HK:=hid k0
 rcases hel with hel | ⟨j,hel,hj⟩
 ·rw [hel] at g3;have HE:=hid hel;subst ho;clear hA1 hB1 hp0 hp1 hA hB P1 k0 hel hAB hAl hBl hAn hBn
  go_enter Tryz.func139,Tryz.ntmps139
  go_wp2_with fail;go_end0
  refine ⟨rfl,HP.out.1.congr (fun i hi => ?_),HK.out.trans HP.out.2⟩
  rw [HE.out]
  have : ¬ (i : Int) = -1:=by omega
  simp [this]
 ·rw [hel] at g3;have HE:=hid hel
  have P2:=HP.out.1.put (g:=fun i => if i = t ∨ (i : Int) = el t then (pc : Int) else en i) j pc (fun i hi => by
   rw [hel]
   by_cases e : i = j
   ·subst e; simp
   ·have : ¬ (i : Int) = (j : Int):=by omega
    simp [e,this])
  have g6:=HP.out.1.cell j hj;have g7:=HP.out.1.free j;have HP2:=hid P2
  have hjb : ((j : Int) == -1) = false:=by simp
  have hjn : ((j : Int) != -1) = true:=by simp
  subst ho;clear hA1 hB1 hp0 hp1 hA hB P1 P2 k0 hel hAB hAl hBl hAn hBn
  go_enter Tryz.func139,Tryz.ntmps139
  go_wp2_with fail;go_end0;exact ⟨rfl,HP2.out.1,(HK.out.trans HP.out.2).trans HP2.out.2⟩
structure WSt (O : Nat → Int) (A B C n : Nat) (w1 : World) (k : Nat) (wr : World) : Prop where
 ok : Okp O k
 rest : res O (n - k) k = res O n 0
 en : RI wr A n (enF O k)
 el : RI wr B n (elF O k)
 ow : RI wr C n (owF O k)
 kept : Kept (fun k => k = A ∨ k = B ∨ k = C) w1 wr
theorem Dz {O : Nat → Int} {k : Nat} (h : Okp O k) (he : er O k = 0) (hb : ¬ (O k = 6 ∧ stk O k = [])) : Okp O (k + 1):=fun i hi => by
 by_cases e : i = k
 ·subst e; exact ⟨he,hb⟩
 ·exact h i (by omega)
theorem WSt.go {O : Nat → Int} {A B C n : Nat} {w1 wr wr' : World} {k : Nat} (h : WSt O A B C n w1 k wr) (hlt : k < n) (he : er O k = 0) (hb : ¬ (O k = 6 ∧ stk O k = []))
  (en : RI wr' A n (enF O (k + 1))) (el : RI wr' B n (elF O (k + 1))) (ow : RI wr' C n (owF O (k + 1))) (kp : Kept (fun k => k = A ∨ k = B ∨ k = C) wr wr') : WSt O A B C n w1 (k + 1) wr' :=
 ⟨Dz h.ok he hb,(qc hlt he hb).symm.trans h.rest,en,el,ow,h.kept.trans kp⟩
structure Mid (O : Nat → Int) (A B C n : Nat) (k : Nat) (wr wr3 : World) : Prop where
 en : RI wr3 A n (enF O k)
 el : RI wr3 B n (elF O k)
 ow : RI wr3 C n (owF O (k + 1))
 kept : Kept (fun k => k = A ∨ k = B ∨ k = C) wr wr3
theorem WSt.mid {O : Nat → Int} {A B C n : Nat} {w1 wr : World} {k : Nat} (h : WSt O A B C n w1 k wr) (hAC : A ≠ C) (hBC : B ≠ C) (ob : Obj) : Mid O A B C n k wr ((wr.alloc ob).setCell ⟨C,k,none⟩ (.int .i64 (top (stk O k)))):=by
 have kf:=Kept.alloc (fun _ => False) wr ob
 have p:=(h.ow.kept kf (fun x => x)).put (g:=owF O (k + 1)) k (top (stk O k)) (fun i hi => wE O k i)
 exact ⟨(h.en.kept kf (fun x => x)).kept p.2 hAC,(h.el.kept kf (fun x => x)).kept p.2 hBC,p.1,(Kept.alloc _ wr ob).trans (p.2.mono (fun k hk => .inr (.inr hk)))⟩
theorem walk_in (A B C b off n cap : Nat) (xs : List Inx) (w : World) (hn : n ≤ 1048576) (hcap : n ≤ cap) (hn0 : 0 < n) (hc : Cod w b off n xs) (hAB : A ≠ B) (hAC : A ≠ C) (hBC : B ≠ C) (hbA : b ≠ A) (hbB : b ≠ B) (hbC : b ≠ C)
  (hA : RI w A n (fun _ => -1)) (hB : RI w B n (fun _ => -1)) (hC : RI w C n (fun _ => -1)) :
  Calls Tryz.prog 90 #[iw A B C n,.slice (some ⟨b,off,none⟩) n cap] w fun e w' => e = .returned (.tuple #[.int .i64 (res (opF xs) n 0).1,.int .i64 (res (opF xs) n 0).2]) ∧
   ((res (opF xs) n 0).1 = 0 → RI w' A n (enF (opF xs) n) ∧ RI w' B n (elF (opF xs) n) ∧ RI w' C n (owF (opF xs) n)) ∧ Kept (fun k => k = A ∨ k = B ∨ k = C) w w':=by
 unfold iw;obtain ⟨o,ho⟩ : ∃ o,o = Obj.cells #[Value.slice (some ⟨A,0,none⟩) n n,.slice (some ⟨B,0,none⟩) n n,.slice (some ⟨C,0,none⟩) n n] 78:=⟨_,rfl⟩
 have kw:=Kept.alloc (fun k => k = A ∨ k = B ∨ k = C) w o
 have kf:=Kept.alloc (fun _ => False) w o
 have hst : WSt (opF xs) A B C n (w.alloc o) 0 (w.alloc o):=⟨fun i hi => absurd hi (by omega),rfl,(hA.kept kf (fun x => x)).congr (fun _ _ => rfl),(hB.kept kf (fun x => x)).congr (fun _ _ => rfl),(hC.kept kf (fun x => x)).congr (fun _ _ => rfl),Kept.refl _ _⟩
 have hp0 : (w.alloc o).cell? ⟨w.heap.size,0,none⟩ = some (.slice (some ⟨A,0,none⟩) n n):=by rw [ho,World.cell?_alloc_new]; rfl
 have hp1 : (w.alloc o).cell? ⟨w.heap.size,1,none⟩ = some (.slice (some ⟨B,0,none⟩) n n):=by rw [ho,World.cell?_alloc_new]; rfl
 have hp2 : (w.alloc o).cell? ⟨w.heap.size,2,none⟩ = some (.slice (some ⟨C,0,none⟩) n n):=by rw [ho,World.cell?_alloc_new]; rfl
 have hAl:=hA.lt;have hBl:=hB.lt;have hCl:=hC.lt
 have nP : ¬ (w.heap.size = A ∨ w.heap.size = B ∨ w.heap.size = C):=by omega
 have nb : ¬ (b = A ∨ b = B ∨ b = C):=by omega
 have HST:=hid hst;have HP0:=hid hp0;have HP1:=hid hp1;have HP2:=hid hp2;have HC:=hid hc;have HKW:=hid kw;have HKF:=hid kf;obtain ⟨P,hP⟩ : ∃ P,P = w.heap.size:=⟨_,rfl⟩;clear hA hB hC hst hp0 hp1 hp2 hc kw kf hAl hBl hCl;subst ho
 go_enter Tryz.func90,Tryz.ntmps90
 go_wp2_with fail
 go_step3
 go_wp2_with fail
 go_step3
 go_wp2_with fail;generalize hw1 : w.alloc (Obj.cells #[Value.slice (some ⟨A,0,none⟩) n n,.slice (some ⟨B,0,none⟩) n n,.slice (some ⟨C,0,none⟩) n n] 78) = w1 at *
 go_loopw [6,7,8,13] (fun o d z i wr => ∃ k : Nat,k ≤ n ∧ o = .int .i64 (top (stk (opF xs) k)) ∧ d = .int .i64 (stk (opF xs) k).length ∧ z = .int .i64 0 ∧ i = .int .i64 k ∧ WSt (opF xs) A B C n w1 k wr) (fun _ _ _ i _ => n - (intOf i).toNat)
 case atStart => exact ⟨0,by omega,rfl,rfl,rfl,rfl,HST.out⟩
 case round =>
  obtain ⟨k,hk,rfl,rfl,rfl,rfl,hst⟩:=hrel
  by_cases hlt : k < n
  ·have g0 : wr.cell? ⟨b,off + k * 3,none⟩ = some (.int .u8 (opF xs k)):=hst.kept.cell (HKF.out.cell (HC.out.op hlt) (fun x => x)) nb
   have hcr:=HC.out.range hlt
   obtain ⟨av,g1⟩ : ∃ av,wr.cell? ⟨b,off + k * 3 + 1,none⟩ = some (.int .i64 av):=⟨_,hst.kept.cell (HKF.out.cell (HC.out.num hlt) (fun x => x)) nb⟩
   obtain ⟨la,ln,lc,g2⟩ : ∃ la ln lc,wr.cell? ⟨b,off + k * 3 + 2,none⟩ = some (.slice la ln lc):=⟨_,_,_,hst.kept.cell (HKF.out.cell (HC.out.lab hlt) (fun x => x)) nb⟩
   obtain ⟨c,hcO⟩ : ∃ c,opF xs k = c:=⟨_,rfl⟩;rw [hcO] at g0 hcr;obtain ⟨ob,hob⟩ : ∃ ob,ob = Obj.cells #[Value.int .u8 c,.int .i64 av,.slice la ln lc] 51:=⟨_,rfl⟩;have hmid:=hst.mid hAC hBC ob
   have kf2:=Kept.alloc (fun _ => False) wr ob
   have hlw : w.heap.size < wr.heap.size:=by
    have h1:=hst.kept.size;have h2:=block_lt_of_cell HP0.out
    simp only at h2
    omega
   have q2 : (wr.alloc ob).cell? ⟨w.heap.size,2,none⟩ = some (.slice (some ⟨C,0,none⟩) n n):=kf2.cell (hst.kept.cell HP2.out nP) (fun x => x)
   have c2 : (wr.alloc ob).cell? ⟨C,k,none⟩ = some (.int .i64 (owF (opF xs) k k)):=(hst.ow.kept kf2 (fun x => x)).cell k hlt
   have f2 : (wr.alloc ob).frozen? ⟨C,k,none⟩ = false:=(hst.ow.kept kf2 (fun x => x)).free k
   have nC : ¬ C = w.heap.size:=by omega
   have nCw : ¬ C = wr.heap.size:=by have:=hst.ow.lt; omega
   have x0 : ((wr.alloc ob).setCell ⟨C,k,none⟩ (.int .i64 (top (stk (opF xs) k)))).cell? ⟨wr.heap.size,0,none⟩ = some (.int .u8 c):=by
    rw [World.cell?_setCell_other _ _ _ _ (fun e => nCw (by injection e)),hob,World.cell?_alloc_new]; rfl
   have r0 : ((wr.alloc ob).setCell ⟨C,k,none⟩ (.int .i64 (top (stk (opF xs) k)))).cell? ⟨w.heap.size,0,none⟩ = some (.slice (some ⟨A,0,none⟩) n n):=hmid.kept.cell (hst.kept.cell HP0.out nP) nP;have r1 : ((wr.alloc ob).setCell ⟨C,k,none⟩ (.int .i64 (top (stk (opF xs) k)))).cell? ⟨w.heap.size,1,none⟩ = some (.slice (some ⟨B,0,none⟩) n n):=hmid.kept.cell (hst.kept.cell HP1.out nP) nP;have r2 : ((wr.alloc ob).setCell ⟨C,k,none⟩ (.int .i64 (top (stk (opF xs) k)))).cell? ⟨w.heap.size,2,none⟩ = some (.slice (some ⟨C,0,none⟩) n n):=hmid.kept.cell (hst.kept.cell HP2.out nP) nP;have HM:=hid hmid;have HT:=hid hst;clear hmid hst kf2
   by_cases hO : isO c = true
   ·have ho5:=fx hO
    by_cases hd : (stk (opF xs) k).length = 32
    ·have her : er (opF xs) k = 35:=by unfold er; rw [hcO,if_pos hO,if_pos hd]
     have hres : res (opF xs) n 0 = (35,(k : Int)):=by rw [← HT.out.rest,oa hlt (by rw [her]; decide),her]
     have HR:=hid hres
     have hdb : (((stk (opF xs) k).length : Int) == 32) = true:=by rw [hd]; rfl
     rw [aV] at hO;subst hob;clear hres her hd;generalize (stk (opF xs) k).length = dl at *;generalize top (stk (opF xs) k) = tp at *
     rcases hO with rfl | rfl | rfl
     all_goals
      go_wp2_with fail
      try rw [Exit.noGoto_ret]
      go_ret2;rw [HR.out]
      exact ⟨rfl,(fun h => by cases h),HKW.out.trans (HT.out.kept.trans HM.out.kept)⟩
    ·have her : er (opF xs) k = 0:=by unfold er; rw [hcO,if_pos hO,if_neg hd]
     have hO' : isO (opF xs k) = true:=by rw [hcO]; exact hO
     have hNX:=HT.out.go hlt her (fun x => ho5.2 (hcO.symm.trans x.1)) (HM.out.en.congr (fun i _ => eJ (by rw [hcO]; exact ho5.2))) (HM.out.el.congr (fun i _ => eN (by rw [hcO]; exact ho5.1))) HM.out.ow HM.out.kept
     have HNX:=hid hNX;have hlen:=CK HT.out.ok;have HSK:=hid (dV hO')
     have hdb : (((stk (opF xs) k).length : Int) == 32) = false:=by simp; omega
     have HDL:=hid (show (stk (opF xs) k).length + 1 = (stk (opF xs) (k + 1)).length by rw [dV hO']; rfl)
     rw [aV] at hO;subst hob;clear hNX her hd hO';generalize (stk (opF xs) k).length = dl at *;generalize top (stk (opF xs) k) = tp at *
     rcases hO with rfl | rfl | rfl
     all_goals
      go_wp2_with fail
      refine ⟨⟨k + 1,by omega,?_,?_,rfl,by go_num,HNX.out⟩,by simp [intOf]; omega⟩
      ·rw [HSK.out]; rfl
      ·rw [← HDL.out]; go_num
   have hO2:=gA (by simpa using hO)
   have hOf : isO (opF xs k) = false:=by rw [hcO]; simpa using hO
   obtain ⟨no2,no3,no4⟩:=hO2
   have b2 : (c == 2) = false:=by simpa using no2
   have b3 : (c == 3) = false:=by simpa using no3
   have b4 : (c == 4) = false:=by simpa using no4
   by_cases h5 : c = 5
   ·have hO5 : opF xs k = 5:=hcO.trans h5
    rcases bH (opF xs) k with hs | ⟨t,ht,hOt,hs⟩
    ·have her : er (opF xs) k = 37:=by unfold er; rw [if_neg (by rw [hOf]; decide),if_pos hO5,hs]
     have hres : res (opF xs) n 0 = (37,(k : Int)):=by rw [← HT.out.rest,oa hlt (by rw [her]; decide),her]
     have HR:=hid hres
     have htp : top (stk (opF xs) k) = -1:=by rw [hs]; rfl
     subst hob;subst h5;clear hres her hs;generalize (stk (opF xs) k).length = dl at *;rw [htp] at x0 r0 r1 r2 HM ⊢;go_wp2_with fail
     try rw [Exit.noGoto_ret]
     go_ret2;rw [HR.out]
     exact ⟨rfl,(fun h => by cases h),HKW.out.trans (HT.out.kept.trans HM.out.kept)⟩
    ·have htp : top (stk (opF xs) k) = (t : Int):=by rw [hs]; rfl
     have htn : t < n:=by omega
     have hct : ((wr.alloc ob).setCell ⟨C,k,none⟩ (.int .i64 (top (stk (opF xs) k)))).cell? ⟨b,off + t * 3,none⟩ = some (.int .u8 (opF xs t)):=HM.out.kept.cell (HT.out.kept.cell (HKF.out.cell (HC.out.op htn) (fun x => x)) nb) nb
     have het : ((wr.alloc ob).setCell ⟨C,k,none⟩ (.int .i64 (top (stk (opF xs) k)))).cell? ⟨B,t,none⟩ = some (.int .i64 (elF (opF xs) k t)):=HM.out.el.cell t htn;have hft : ((wr.alloc ob).setCell ⟨C,k,none⟩ (.int .i64 (top (stk (opF xs) k)))).frozen? ⟨B,t,none⟩ = false:=HM.out.el.free t
     have hern : ¬ (opF xs t = 4 ∧ elF (opF xs) k t = -1) → res (opF xs) n 0 = (37,(k : Int)):=fun hx => by
      have her : er (opF xs) k = 37:=by unfold er; rw [if_neg (by rw [hOf]; decide),if_pos hO5,hs]; simp only; rw [if_neg hx]
      rw [← HT.out.rest,oa hlt (by rw [her]; decide),her]
     have tb : ((t : Int) == -1) = false:=by simp
     rw [htp] at x0 r0 r1 r2 HM hct het hft ⊢
     by_cases h4 : opF xs t = 4
     ·rw [h4] at hct
      by_cases hel : elF (opF xs) k t = -1
      ·rw [hel] at het
       have her : er (opF xs) k = 0:=by unfold er; rw [if_neg (by rw [hOf]; decide),if_pos hO5,hs]; simp only; rw [if_pos ⟨h4,hel⟩]
       have PB:=HM.out.el.put (g:=elF (opF xs) (k + 1)) t k (fun i hi => pY hO5 hs i)
       have hNX:=HT.out.go hlt her (fun x => by have:=x.1; omega) ((HM.out.en.congr (fun i _ => eJ (by omega))).kept PB.2 hAB) PB.1 (HM.out.ow.kept PB.2 (fun x => hBC x.symm)) (HM.out.kept.trans (PB.2.mono (fun k hk => .inr (.inl hk))))
       have HNX:=hid hNX
       have HSK:=hid (Ch hOf (by omega))
       have HTP:=hid htp;subst hob;subst h5;clear hNX her PB hel h4 hern hs htp;generalize hdl : (stk (opF xs) k).length = dl at *;go_wp2_with fail
       refine ⟨⟨k + 1,by omega,?_,?_,rfl,by go_num,HNX.out⟩,by simp [intOf]; omega⟩
       ·rw [HSK.out,HTP.out]
       ·rw [HSK.out,hdl]
      ·have HR:=hid (hern (fun x => hel x.2))
       have eb : (elF (opF xs) k t == -1) = false:=by simpa using hel
       have ebn : (elF (opF xs) k t != -1) = true:=by simpa using hel
       subst hob;subst h5;clear hern hs htp h4 hel;generalize (stk (opF xs) k).length = dl at *;generalize elF (opF xs) k t = ev at *;go_wp2_with fail
       try rw [Exit.noGoto_ret]
       go_ret2;rw [HR.out]
       exact ⟨rfl,(fun h => by cases h),HKW.out.trans (HT.out.kept.trans HM.out.kept)⟩
     ·have HR:=hid (hern (fun x => h4 x.1))
      have eb : (opF xs t == 4) = false:=by simpa using h4
      have ebn : (opF xs t != 4) = true:=by simpa using h4
      have hrt:=HC.out.range htn;subst hob;subst h5;clear hern hs htp h4;generalize (stk (opF xs) k).length = dl at *;generalize opF xs t = ct at *;go_wp2_with fail
      try rw [Exit.noGoto_ret]
      go_ret2;rw [HR.out]
      exact ⟨rfl,(fun h => by cases h),HKW.out.trans (HT.out.kept.trans HM.out.kept)⟩
   have b5 : (c == 5) = false:=by simpa using h5
   have her : er (opF xs) k = 0:=by unfold er; rw [if_neg (by rw [hOf]; decide),if_neg (by rw [hcO]; exact h5)]
   by_cases h6 : c = 6
   ·have hO6 : opF xs k = 6:=hcO.trans h6
    rcases bH (opF xs) k with hs | ⟨t,ht,hOt,hs⟩
    ·have hres:=(HT.out.rest).symm.trans (qz hlt her ⟨hO6,hs⟩)
     have htp : top (stk (opF xs) k) = -1:=by rw [hs]; rfl
     have hfin : RI ((wr.alloc ob).setCell ⟨C,k,none⟩ (.int .i64 (top (stk (opF xs) k)))) A n (enF (opF xs) (k + 1)) ∧ RI ((wr.alloc ob).setCell ⟨C,k,none⟩ (.int .i64 (top (stk (opF xs) k)))) B n (elF (opF xs) (k + 1)) ∧ RI ((wr.alloc ob).setCell ⟨C,k,none⟩ (.int .i64 (top (stk (opF xs) k)))) C n (owF (opF xs) (k + 1)) :=
      ⟨HM.out.en.congr (fun i _ => pC hs i),HM.out.el.congr (fun i _ => qq hs i),HM.out.ow⟩
     have HF:=hid hfin;have HR:=hid hres
     have kb : ((k : Int) + 1 == 0) = false:=by simp; omega
     subst hob;subst h6;clear hres her hs hfin;generalize (stk (opF xs) k).length = dl at *;rw [htp] at x0 r0 r1 r2 HM HF ⊢
     by_cases hl : k + 1 = n
     ·have hl1 : ¬ (k : Int) + 1 < (n : Int):=by omega
      go_wp2_with fail
      try rw [Exit.noGoto_ret]
      go_ret2;rw [HR.out,if_pos hl];subst hl
      exact ⟨rfl,fun _ => HF.out,HKW.out.trans (HT.out.kept.trans HM.out.kept)⟩
     ·have hl1 : (k : Int) + 1 < (n : Int):=by omega
      go_wp2_with fail
      try rw [Exit.noGoto_ret]
      go_ret2;rw [HR.out,if_neg hl]
      exact ⟨rfl,(fun h => by cases h),HKW.out.trans (HT.out.kept.trans HM.out.kept)⟩
    ·have htp : top (stk (opF xs) k) = (t : Int):=by rw [hs]; rfl
     have htn : t < n:=by omega
     have hiv:=lu HT.out.ok
     have hel : elF (opF xs) k t = -1 ∨ ∃ j : Nat,elF (opF xs) k t = j ∧ j < n:=by
      rcases hiv.els t with h | ⟨j,a1,a2,a3,_⟩
      ·exact .inl h
      ·exact .inr ⟨j,a1,by omega⟩
     have HE:=hid (Be A B C n t k _ _ _ hn htn hAB HM.out.en HM.out.el hel)
     have hs1 : stk (opF xs) (k + 1) = stk (opF xs) t:=by rw [gw hO6,hs]; rfl
     have HS1:=hid hs1
     have hdl : (stk (opF xs) k).length = (stk (opF xs) t).length + 1:=by rw [hs]; rfl
     have hen : ∀ i,enF (opF xs) (k + 1) i = if i = t ∨ (i : Int) = elF (opF xs) k t then (k : Int) else enF (opF xs) k i:=fun i => tU hO6 hs i
     have HEN:=hid hen;have hlen:=CK HT.out.ok;rw [hdl] at hlen
     have hb6 : ¬ (opF xs k = 6 ∧ stk (opF xs) k = []):=fun x => by rw [hs] at x; cases x.2
     have HB6:=hid hb6
     have tb : ((t : Int) == -1) = false:=by simp
     subst hob;subst h6;rw [hdl];rw [htp] at x0 r0 r1 r2 HM HE ⊢;unfold iw at HE;clear hs hs1 hdl hen hb6 hiv hel htp;go_wp2_with fail;refine HE.out.mono ?_;rintro e w4 ⟨rfl,en4,kp4⟩
     have z2 : w4.cell? ⟨w.heap.size,2,none⟩ = some (.slice (some ⟨C,0,none⟩) n n):=kp4.cell r2 (by omega)
     have z3 : w4.cell? ⟨C,t,none⟩ = some (.int .i64 (owF (opF xs) (k + 1) t)):=(HM.out.ow.kept kp4 (fun x => hAC x.symm)).cell t htn
     have z4 : owF (opF xs) (k + 1) t = top (stk (opF xs) t):=by unfold owF; rw [if_pos (by omega)]
     rw [z4] at z3
     have hNX:=HT.out.go hlt her HB6.out (en4.congr (fun i _ => HEN.out i)) ((HM.out.el.congr (fun i _ => eN (by omega))).kept kp4 (fun x => hAB x.symm)) (HM.out.ow.kept kp4 (fun x => hAC x.symm)) (HM.out.kept.trans (kp4.mono (fun k hk => .inl hk)))
     have HNX:=hid hNX;have HZ:=hid z4;clear hNX en4 kp4 z4 her;generalize hdt : (stk (opF xs) t).length = dt at *;generalize htt : top (stk (opF xs) t) = tt at *;go_wp2_with fail
     refine ⟨⟨k + 1,by omega,?_,?_,rfl,by go_num,HNX.out⟩,by simp [intOf]; omega⟩
     ·rw [HS1.out,htt]
     ·rw [HS1.out,hdt]
   ·have b6 : (c == 6) = false:=by simpa using h6
    have hNX:=HT.out.go hlt her (fun x => h6 (hcO.symm.trans x.1)) (HM.out.en.congr (fun i _ => eJ (by rw [hcO]; exact h6))) (HM.out.el.congr (fun i _ => eN (by rw [hcO]; exact h5))) HM.out.ow HM.out.kept
    have HNX:=hid hNX
    have HSK:=hid (Ch hOf (by rw [hcO]; exact h6))
    subst hob;clear hNX her hO hOf;generalize hdl : (stk (opF xs) k).length = dl at *;generalize htp : top (stk (opF xs) k) = tp at *;go_wp2_with fail
    refine ⟨⟨k + 1,by omega,?_,?_,rfl,by go_num,HNX.out⟩,by simp [intOf]; omega⟩
    ·rw [HSK.out,htp]
    ·rw [HSK.out,hdl]
  ·obtain rfl : k = n:=by omega
   have hres : res (opF xs) k 0 = (38,(k : Int)):=by rw [← hst.rest,Nat.sub_self]; rfl
   have HR:=hid hres;have HT:=hid hst;clear hres hst;generalize (stk (opF xs) k).length = dl at *;generalize top (stk (opF xs) k) = tp at *;go_wp2_with fail
   try rw [Exit.noGoto_ret]
   go_ret2;rw [HR.out]
   exact ⟨rfl,(fun h => by cases h),HKW.out.trans HT.out.kept⟩
theorem walk_nil (A B C cap : Nat) (a : Option Addr) (w : World) :
  Calls Tryz.prog 90 #[iw A B C 0,.slice a 0 cap] w fun e w' => e = .returned (.tuple #[.int .i64 38,.int .i64 0]) ∧ Kept (fun _ => False) w w':=by
 unfold iw
 have HK:=hid (Kept.alloc (fun _ => False) w (Obj.cells #[Value.slice (some ⟨A,0,none⟩) 0 0,.slice (some ⟨B,0,none⟩) 0 0,.slice (some ⟨C,0,none⟩) 0 0] 78))
 go_enter Tryz.func90,Tryz.ntmps90
 go_wp2_with fail
 go_step3
 go_wp2_with fail
 go_step3
 go_wp2_with fail;refine wp_loop_rounds 1 ?_;rw [rounds_succ];go_wp2_with fail
 try rw [Exit.noGoto_ret]
 go_ret2;exact ⟨rfl,HK.out⟩
def DX (O : Nat → Int) (n base : Nat) (w : World) (a1 a2 a3 : Option Addr) (m : Nat) : Prop :=
 ((res O n 0).1 ≠ 0 ∧ a1 = none ∧ a2 = none ∧ a3 = none ∧ m = 0) ∨
 (res O n 0 = (0,0) ∧ Good O n ∧ m = n ∧ ∃ A B C,base ≤ A ∧ base ≤ B ∧ base ≤ C ∧ A ≠ B ∧ A ≠ C ∧ B ≠ C ∧ a1 = some ⟨A,0,none⟩ ∧ a2 = some ⟨B,0,none⟩ ∧ a3 = some ⟨C,0,none⟩ ∧
  RI w A n (enF O n) ∧ RI w B n (elF O n) ∧ RI w C n (owF O n))
theorem kY {B : Nat} {w w1 w2 : World} {S : Nat → Prop} (h : Below B w w1) (hk : Kept S w1 w2) (hB : B ≤ w1.heap.size) (hs : ∀ k,S k → B ≤ k) : Below B w w2 :=
 ⟨hk.os.trans h.os,hk.tape.trans h.tape,hk.output.trans h.output,Nat.le_trans h.size hk.size,fun k hx => (hk.block k (by omega) (fun x => by have:=hs k x; omega)).trans (h.block k hx)⟩
theorem ik {fn : Func} {t u v x y : Tmp} (h : fn.results = #[.tmp t,.tmp u,.tmp v,.tmp x,.tmp y]) (tmps : Array Value) (P : Program) (w : World) :
  (results fn tmps).run P w = .ok (.tuple #[tmps.getD t undef,tmps.getD u undef,tmps.getD v undef,tmps.getD x undef,tmps.getD y undef]) w:=by
 simp [results,h]
theorem r8 (a : Option Addr) (n cap : Nat) (xs : List Inx) (w : World) (hn : n ≤ 1048576) (hcap : n ≤ cap) (hc : sJ w a n xs) :
  Calls Tryz.prog 51 #[.slice a n cap] w fun e w' => ∃ a1 a2 a3 m,e = .returned (.tuple #[.slice a1 m m,.slice a2 m m,.slice a3 m m,.int .i64 (res (opF xs) n 0).1,.int .i64 (res (opF xs) n 0).2]) ∧ DX (opF xs) n w.heap.size w' a1 a2 a3 m ∧ Below w.heap.size w w':=by
 have H1:=hid (blank n w hn);have HC:=hid hc;clear hc
 go_enter Tryz.func51,Tryz.ntmps51
 go_wp2_with fail;refine H1.out.mono ?_;rintro e w1 ⟨A,rfl,hA0,hA,hb1⟩;have H2:=hid (blank n w1 hn);go_wp2_with fail;refine H2.out.mono ?_;rintro e w2 ⟨B,rfl,hB0,hB,hb2⟩;have H3:=hid (blank n w2 hn);go_wp2_with fail;refine H3.out.mono ?_;rintro e w3 ⟨C,rfl,hC0,hC,hb3⟩;have hAl:=hA.lt;have hBl:=hB.lt;have hCl:=hC.lt;have hs1:=hb1.size;have hs2:=hb2.size;have hs3:=hb3.size
 have hAB : A ≠ B:=by omega
 have hAC : A ≠ C:=by omega
 have hBC : B ≠ C:=by omega
 have k2:=Kept.of_below hb2;have k3:=Kept.of_below hb3
 have hA3:=(hA.kept k2 (by omega)).kept k3 (by omega)
 have hB3:=hB.kept k3 (by omega)
 have hbw : Below w.heap.size w w3:=(hb1.trans (hb2.mono hs1)).trans (hb3.mono (by omega))
 obtain ⟨op,hop⟩ : ∃ op,op = Obj.cells #[Value.slice (some ⟨A,0,none⟩) n n,.slice (some ⟨B,0,none⟩) n n,.slice (some ⟨C,0,none⟩) n n] 78:=⟨_,rfl⟩
 have kf:=Kept.alloc (fun _ => False) w3 op
 have hbp : Below w.heap.size w (w3.alloc op):=hbw.alloc (by omega) op
 have hA4:=hA3.kept kf (fun x => x)
 have hB4:=hB3.kept kf (fun x => x)
 have hC4:=hC.kept kf (fun x => x)
 have p0 : (w3.alloc op).cell? ⟨w3.heap.size,0,none⟩ = some (.slice (some ⟨A,0,none⟩) n n):=by rw [hop,World.cell?_alloc_new]; rfl
 have p1 : (w3.alloc op).cell? ⟨w3.heap.size,1,none⟩ = some (.slice (some ⟨B,0,none⟩) n n):=by rw [hop,World.cell?_alloc_new]; rfl
 have p2 : (w3.alloc op).cell? ⟨w3.heap.size,2,none⟩ = some (.slice (some ⟨C,0,none⟩) n n):=by rw [hop,World.cell?_alloc_new]; rfl
 have nP : ¬ (w3.heap.size = A ∨ w3.heap.size = B ∨ w3.heap.size = C):=by omega
 have hwalk : Calls Tryz.prog 90 #[iw A B C n,.slice a n cap] (w3.alloc op) fun e w' => e = .returned (.tuple #[.int .i64 (res (opF xs) n 0).1,.int .i64 (res (opF xs) n 0).2]) ∧
   ((res (opF xs) n 0).1 = 0 → RI w' A n (enF (opF xs) n) ∧ RI w' B n (elF (opF xs) n) ∧ RI w' C n (owF (opF xs) n)) ∧ Kept (fun k => k = A ∨ k = B ∨ k = C) (w3.alloc op) w':=by
  have hcs:=HC.out.later hbp (Nat.le_refl _)
  by_cases h0 : n = 0
  ·subst h0
   refine (walk_nil A B C cap a _).mono fun e w' ⟨he,hk⟩ => ⟨by rw [he]; rfl,(fun h => by cases h),hk.mono (fun _ x => x.elim)⟩
  ·rcases hcs.2 with hc | ⟨b,off,rfl,hc⟩
   ·exact absurd hc h0
   have hb : b < w.heap.size:=by
    rcases HC.out.2 with hx | ⟨b',off',e,hx⟩
    ·exact absurd hx h0
    ·injection e with e; injection e with e1; subst e1; exact hx.lt (by omega)
   exact walk_in A B C b off n cap xs _ hn hcap (by omega) hc hAB hAC hBC (by omega) (by omega) (by omega) hA4 hB4 hC4
 have HW:=hid hwalk;have HB:=hid hbp;unfold iw at HW
 have hge : w.heap.size ≤ w3.heap.size:=by omega
 have hsz : (w3.alloc op).heap.size = w3.heap.size + 1:=by simp
 subst hop;clear hwalk hA hB hC hA3 hB3 hA4 hB4 hC4 kf k2 k3 hbw hbp hb1 hb2 hb3 hs1 hs2 hs3;go_wp2_with fail;refine HW.out.mono ?_;rintro e w5 ⟨rfl,hR,hk⟩;have z0:=hk.cell p0 nP;have z1:=hk.cell p1 nP;have z2:=hk.cell p2 nP
 have HB5:=hid (kY HB.out hk (by omega) (fun k hx => by omega))
 have HR:=hid hR;clear hR hk
 by_cases h0 : (res (opF xs) n 0).1 = 0
 ·have hg:=vV h0;have HRR:=hid (ez hg);have HG:=hid hg
  have hz : ((res (opF xs) n 0).1 == 0) = true:=by rw [h0]; rfl
  have hz' : ((res (opF xs) n 0).1 != 0) = false:=by rw [h0]; rfl
  have H0:=hid h0;clear h0 hg;generalize hr1 : (res (opF xs) n 0).1 = r1 at *;generalize hr2 : (res (opF xs) n 0).2 = r2 at *;go_wp2_with fail
  go_quiet (fail)
  go_wp2_with fail
  (try simp only [Exit.inBlock,Exit.then])
  refine bodyPost_ret (ik rfl _ _ _) rfl ?_;have e1 : r1 = 0:=H0.out
  have e2 : r2 = 0:=by rw [← hr2,HRR.out]
  have kd:=Kept.drewN (fun _ => False) w5 nq
  obtain ⟨R1,R2,R3⟩:=HR.out e1
  refine ⟨_,_,_,_,by rw [hr1,hr2,e1,e2]; rfl,?_,kY HB5.out kd HB5.out.size (fun _ x => x.elim)⟩
  exact .inr ⟨HRR.out,HG.out,rfl,A,B,C,by omega,by omega,by omega,hAB,hAC,hBC,rfl,rfl,rfl,R1.kept kd (fun x => x),R2.kept kd (fun x => x),R3.kept kd (fun x => x)⟩
 ·have hz : ((res (opF xs) n 0).1 == 0) = false:=by simpa using h0
  have hz' : ((res (opF xs) n 0).1 != 0) = true:=by simpa using h0
  have H0:=hid h0;clear h0;generalize hr1 : (res (opF xs) n 0).1 = r1 at *;generalize hr2 : (res (opF xs) n 0).2 = r2 at *;go_wp2_with fail
  (try simp only [Exit.inBlock,Exit.then])
  refine bodyPost_ret (ik rfl _ _ _) rfl ?_
  refine ⟨_,_,_,_,by rw [hr1,hr2]; rfl,.inl ⟨?_,rfl,rfl,rfl,rfl⟩,HB5.out⟩
  rw [hr1]; exact H0.out
end Go.Proofs.YtepnnenohjfkbaaGreatDoor
