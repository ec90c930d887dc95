/-
  Texts Fm Fn Vc Vd Ve.
-/
import Derived.Deep.RegionHeld3
import Derived.Test.YtmgjhfookhaajaaGreatDoorQ03
import Derived.Test.YtmgjhfookhaajaaGreatDoorQ09
set_option linter.unusedVariables false
set_option maxRecDepth 100000
set_option maxHeartbeats 16000000
namespace Go.Proofs.YtmgjhfookhaajaaGreatDoor
open Go.RowKit
structure SM (s : StM) : Prop where
 f : s.fn ≤ 140737488355328
 g : s.gn ≤ 140737488355328
 p : s.pn ≤ 140737488355328
 r : s.rn ≤ 140737488355328
 fb : ∀ x ∈ s.fs,x.2.2.1.1.2.1 ≤ 140737488355328 ∧ x.2.2.2.1.2.1 ≤ 140737488355328
 pb : ∀ x ∈ s.ps,x.1.2.1 ≤ 140737488355328
def PgS (l : List PgM) : Prop:=∀ x ∈ l,x.1.2.1 ≤ 2147483647
theorem siz35 (a : Option Addr) (n c : Nat) (l : List PgM) (w : World) (h : SPg w a n l) (hn : n ≤ 140737488355328) (hb : ∀ x ∈ l,x.1.2.1 ≤ 140737488355328) :
  Calls Tryz.prog 35 #[.slice a n c] w fun e w' => ∃ z : Nat,e = .returned (.int .i64 z) ∧ n ≤ z ∧ z ≤ 562949953421312 ∧ (z ≤ 2147483647 → PgS l) ∧ w' = w:=by
 have hl:=h.len
 have HA:=hid h.at_
 have HB:=hid hb
 clear h hb
 go_enter Tryz.func35,Tryz.ntmps35
 go_wp2_with fail
 go_loopw [3,4] (fun m i wr => ∃ k z : Nat,k ≤ n ∧ i = .int .i64 k ∧ m = .int .i64 z ∧ wr = w ∧ n ≤ z ∧ z ≤ 562949953421312 ∧ Hid (∀ (j : Nat) x,j < k → l[j]? = some x → x.1.2.1 ≤ z)) (fun _ i _ => n - (intOf i).toNat)
 case atStart => exact ⟨0,n,by omega,rfl,rfl,rfl,by omega,by omega,hid (fun j x hj => by omega)⟩
 case round =>
  obtain ⟨k,z,hk,rfl,rfl,rfl,hz1,hz2,HZ⟩:=hrel
  by_cases hlt : k < n
  ·have hlt' : (k : Int) < (n : Int):=by omega
   by_cases hbd : z ≤ 2147483647
   ·obtain ⟨x,hx⟩ : ∃ x,l[k]? = some x:=⟨_,List.getElem?_eq_getElem (by omega)⟩
    obtain ⟨b,off,rfl,hat⟩:=HA.out.resolve_left (by omega)
    have e0:=hat k x hx
    have hxb:=HB.out x (List.mem_of_getElem? hx)
    have hbd' : (z : Int) ≤ 2147483647:=by omega
    have hw : wrap64 ((z : Int) + (x.1.2.1 : Int)) = ((z + x.1.2.1 : Nat) : Int):=by unfold wrap64; omega
    have HX:=hid hx
    clear hat hx HA HB
    go_wp2_with fail
    exact ⟨⟨k + 1,z + x.1.2.1,by omega,by go_num,by go_num,by first | rfl | trivial,by omega,by omega,hid (fun j y hj hy => by
     by_cases hjk : j < k
     ·have:=HZ.out j y hjk hy; omega
     ·obtain rfl : j = k:=by omega
      rw [HX.out] at hy
      injection hy with hy
      subst hy
      omega)⟩,by simp [intOf]; omega⟩
   ·have hbd' : ¬ (z : Int) ≤ 2147483647:=by omega
    clear HA HB
    go_wp2_with fail
    go_ret
    exact ⟨z,rfl,hz1,hz2,(fun h => absurd h hbd),rfl⟩
  ·have hlt' : ¬ (k : Int) < (n : Int):=by omega
   clear HA HB
   go_wp2_with fail
   go_ret
   exact ⟨z,rfl,hz1,hz2,(fun h x hx => by
    obtain ⟨j,hj⟩:=List.getElem?_of_mem hx
    have h1:=HZ.out j x (by have:=lt_of_get hj; omega) hj
    omega),rfl⟩
theorem siz13 (s : StM) (w : World) (h : SSt w s) (hs : SM s) :
  Calls Tryz.prog 13 #[.agg (stAr s)] w fun e w' => ∃ z : Nat,e = .returned (.int .i64 z) ∧ (z ≤ 2147483647 → SC s) ∧ Below w.heap.size w w':=by
 have HF:=hid h.fr.at_
 have HM:=hid hs
 have hfl:=h.fr.len
 have hf:=hs.f
 have hg:=hs.g
 have hr:=hs.r
 have B0:=below_new w (.cells (stAr s) 27)
 have kb:=nb_new w (.cells (stAr s) 27)
 have HP:=hid (siz35 s.pa s.pn s.pc s.ps (w.alloc (.cells (stAr s) 27)).drew (h.pg.later (B0.trans ((below_drewN _ 1).mono B0.size))) hs.p hs.pb)
 have KB:=hid kb
 have HB0:=hid B0
 have g0 : (w.alloc (.cells (stAr s) 27)).cell? ⟨w.heap.size,0,none⟩ = some (.slice s.fa s.fn s.fc):=cell_at kb
 have g1 : (w.alloc (.cells (stAr s) 27)).cell? ⟨w.heap.size,1,none⟩ = some (.slice s.ga s.gn s.gc):=cell_at kb
 have g2 : (w.alloc (.cells (stAr s) 27)).cell? ⟨w.heap.size,2,none⟩ = some (.slice s.pa s.pn s.pc):=cell_at kb
 have g5 : (w.alloc (.cells (stAr s) 27)).cell? ⟨w.heap.size,5,none⟩ = some (.slice s.ra s.rn s.rc):=cell_at kb
 clear h hs B0 kb
 go_enter Tryz.func13,Tryz.ntmps13
 go_wp2_with fail
 generalize w.alloc (.cells (stAr s) 27) = W0 at *
 go_region_held3 (fun W => W.cell? ⟨w.heap.size,0,none⟩ = some (.slice s.fa s.fn s.fc) ∧ W.cell? ⟨w.heap.size,1,none⟩ = some (.slice s.ga s.gn s.gc) ∧ W.cell? ⟨w.heap.size,2,none⟩ = some (.slice s.pa s.pn s.pc) ∧ W.cell? ⟨w.heap.size,5,none⟩ = some (.slice s.ra s.rn s.rc)) (go_keep)
  (first | (go_at_call 35; refine HP.out.mono ?_; rintro e w5 ⟨zp,rfl,hz1,hz2,hz3,hw5⟩; have HZP:=hid (And.intro hz1 hz3); subst hw5; clear hz3))
 have hz1:=HZP.out.1
 have HBD:=hid (show Below w.heap.size w W0.drew from HB0.out.trans ((below_drewN W0 1).mono HB0.out.size))
 have hv : IntKind.i64.wrap (IntKind.i64.wrap (IntKind.i64.wrap ((s.fn : Int) + (s.gn : Int)) + (s.rn : Int)) + (zp : Int)) = ((s.fn + s.gn + s.rn + zp : Nat) : Int):=by
  rw [i64_in ((s.fn : Int) + (s.gn : Int)) (by omega),i64_in ((s.fn : Int) + (s.gn : Int) + (s.rn : Int)) (by omega),i64_in _ (by omega)]
  all_goals omega
 have HV:=hid hv
 clear hv
 have KBD:=hid (show W0.drew.heap[w.heap.size]? = some (.cells (stAr s) 27) from KB.out)
 clear g0 g1 g2 g5
 generalize W0.drew = W1 at *
 have g0 : W1.cell? ⟨w.heap.size,0,none⟩ = some (.slice s.fa s.fn s.fc):=cell_at KBD.out
 go_wp2_with fail
 go_loopw [3,4] (fun m i wr => ∃ k z q : Nat,k ≤ s.fn ∧ i = .int .i64 k ∧ m = .int .i64 z ∧ wr = W1.drewN q ∧ s.fn + s.gn + s.rn + zp ≤ z ∧ z ≤ 2251799813685248 ∧ Hid (∀ (j : Nat) x,j < k → s.fs[j]? = some x → x.2.2.1.1.2.1 ≤ z ∧ x.2.2.2.1.2.1 ≤ z)) (fun _ i _ => s.fn - (intOf i).toNat)
 case atStart => exact ⟨0,s.fn + s.gn + s.rn + zp,0,by omega,rfl,congrArg (Value.int .i64) HV.out,rfl,by omega,by omega,hid (fun j x hj => by omega)⟩
 case round =>
  obtain ⟨k,z,q,hk,rfl,rfl,rfl,hz1,hz4,HZ⟩:=hrel
  have HE:=hid (fun (hb : z ≤ 2147483647) (he : ∀ (j : Nat) x,s.fs[j]? = some x → x.2.2.1.1.2.1 ≤ z ∧ x.2.2.2.1.2.1 ≤ z) => (show SC s from ⟨by omega,by omega,by have:=HZP.out.1; omega,by omega,fun x hx => by
   obtain ⟨j,hj⟩:=List.getElem?_of_mem hx
   have:=he j x hj
   omega,HZP.out.2 (by omega)⟩))
  have HBQ:=hid (HBD.out.trans ((below_drewN W1 q).mono HBD.out.size))
  by_cases hlt : k < s.fn
  ·have hlt' : (k : Int) < (s.fn : Int):=by omega
   by_cases hbd : z ≤ 2147483647
   ·obtain ⟨x,hx⟩ : ∃ x,s.fs[k]? = some x:=⟨_,List.getElem?_eq_getElem (by omega)⟩
    obtain ⟨b,off,hfa,hat⟩:=HF.out.resolve_left (by omega)
    obtain ⟨_,_,e2,e3⟩:=hat k x hx
    have e2:=later_cell HBD.out e2
    have e3:=later_cell HBD.out e3
    have hxb:=HM.out.fb x (List.mem_of_getElem? hx)
    have hbd' : (z : Int) ≤ 2147483647:=by omega
    obtain ⟨x1,x2⟩:=hxb
    have HX:=hid hx
    have hx1 : x.2.2.1.1.2.1 = x.2.2.1.1.2.1 ∧ x.2.2.2.1.2.1 = x.2.2.2.1.2.1:=⟨rfl,rfl⟩
    obtain ⟨n1,hn1⟩ : ∃ n,x.2.2.1.1.2.1 = n:=⟨_,rfl⟩
    obtain ⟨n2,hn2⟩ : ∃ n,x.2.2.2.1.2.1 = n:=⟨_,rfl⟩
    rw [hn1] at e2 x1
    rw [hn2] at e3 x2
    have HN:=hid (And.intro hn1 hn2)
    clear hx1 hn1 hn2
    rw [hfa] at g0
    clear hat hx HF HM HP HZP HB0 KB HE HBD KBD HBQ HV
    go_wp2_with fail
    go_quiet (fail)
    go_wp2_with fail
    exact ⟨⟨k + 1,z + n1 + n2,_,by omega,by go_num,by go_num,rfl,by omega,by omega,hid (fun j y hj hy => by
     by_cases hjk : j < k
     ·have:=HZ.out j y hjk hy; omega
     ·obtain rfl : j = k:=by omega
      rw [HX.out] at hy
      injection hy with hy
      subst hy
      rw [HN.out.1,HN.out.2]
      omega)⟩,by simp [intOf]; omega⟩
   ·have hbd' : ¬ (z : Int) ≤ 2147483647:=by omega
    clear HF HM HP HZP HB0 KB HE HBD KBD HV
    go_wp2_with fail
    go_ret
    exact ⟨z,rfl,(fun h => absurd h hbd),HBQ.out⟩
  ·have hlt' : ¬ (k : Int) < (s.fn : Int):=by omega
   clear HF HM HP HZP HB0 KB HBD KBD HV
   go_wp2_with fail
   go_ret
   exact ⟨z,rfl,(fun h => HE.out h (fun j x hj => HZ.out j x (by have:=lt_of_get hj; omega) hj)),HBQ.out⟩
theorem rep14 (w : World) : Calls Tryz.prog 14 #[.slice none 0 0] w fun e w' => e = .returned (.int .i64 0) ∧ w' = w:=by
 go_enter Tryz.func14,Tryz.ntmps14
 go_wp2
 refine wp_loop_rounds 1 ?_
 rw [rounds_succ]
 go_wp2
 go_ret
 exact ⟨rfl,rfl⟩
theorem lng11 (z : Int) (w : World) : Calls Tryz.prog 11 #[.int .i64 z] w fun e w' => e = .returned (.bool (decide (z > 2147483647))) ∧ w' = w:=by
 by_cases h : z > 2147483647
 ·have h' : 2147483647 < z:=h
  have hv:=decide_eq_true h
  have HV:=hid hv
  clear hv
  go_enter Tryz.func11,Tryz.ntmps11
  go_wp2
  go_ret
  exact ⟨by rw [HV.out]; rfl,rfl⟩
 ·have h' : ¬ 2147483647 < z:=h
  have hv:=decide_eq_false h
  have HV:=hid hv
  clear hv
  go_enter Tryz.func11,Tryz.ntmps11
  go_wp2
  go_ret
  exact ⟨by rw [HV.out]; rfl,rfl⟩
abbrev zMd : Array Value:=#[.slice none 0 0,.slice none 0 0,.slice none 0 0,.int .i64 0,.int .i64 0,.slice none 0 0,.slice none 0 0,.slice none 0 0]
theorem mod12 (w : World) : Calls Tryz.prog 12 #[.agg zMd] w fun e w' => e = .returned (.int .i64 0) ∧ Below w.heap.size w w':=by
 have HB:=hid (below_new w (.cells zMd 36))
 have kb:=nb_new w (.cells zMd 36)
 have g0 : (w.alloc (.cells zMd 36)).cell? ⟨w.heap.size,0,none⟩ = some (.slice none 0 0):=cell_at kb
 have g1 : (w.alloc (.cells zMd 36)).cell? ⟨w.heap.size,1,none⟩ = some (.slice none 0 0):=cell_at kb
 have g2 : (w.alloc (.cells zMd 36)).cell? ⟨w.heap.size,2,none⟩ = some (.slice none 0 0):=cell_at kb
 have g3 : (w.alloc (.cells zMd 36)).cell? ⟨w.heap.size,3,none⟩ = some (.int .i64 0):=cell_at kb
 have g4 : (w.alloc (.cells zMd 36)).cell? ⟨w.heap.size,4,none⟩ = some (.int .i64 0):=cell_at kb
 have g5 : (w.alloc (.cells zMd 36)).cell? ⟨w.heap.size,5,none⟩ = some (.slice none 0 0):=cell_at kb
 have g6 : (w.alloc (.cells zMd 36)).cell? ⟨w.heap.size,6,none⟩ = some (.slice none 0 0):=cell_at kb
 have g7 : (w.alloc (.cells zMd 36)).cell? ⟨w.heap.size,7,none⟩ = some (.slice none 0 0):=cell_at kb
 clear kb
 go_enter Tryz.func12,Tryz.ntmps12
 go_wp2_with fail
 generalize w.alloc (.cells zMd 36) = W at *
 refine wp_loop_rounds 1 ?_
 rw [rounds_succ]
 go_wp2_with fail
 refine wp_loop_rounds 1 ?_
 rw [rounds_succ]
 go_wp2_with fail
 refine wp_loop_rounds 1 ?_
 rw [rounds_succ]
 go_wp2_with fail
 refine wp_loop_rounds 1 ?_
 rw [rounds_succ]
 go_wp2_with fail
 go_ret
 exact ⟨rfl,HB.out⟩
theorem lon4 (s : StM) (w : World) (h : SSt w s) (hs : SM s) :
  Calls Tryz.prog 4 #[.agg zMd,.slice none 0 0,.agg (stAr s)] w fun e w' => ∃ b,e = .returned (.bool b) ∧ (b = false → SC s ∧ s.pn ≤ 70 ∧ s.fn ≤ 100) ∧ Below w.heap.size w w':=by
 have H12:=hid mod12
 have H11:=hid lng11
 have H14:=hid rep14
 have H13:=hid (fun (W : World) (hb : Below w.heap.size w W) => siz13 s W (h.later hb) hs)
 clear h hs
 have B1:=below_new w (.cells zMd 36)
 have B2:=below_new (w.alloc (.cells zMd 36)) (.cells (stAr s) 27)
 have B0:=hid (B1.trans (B2.mono B1.size))
 have ka:=nb_later B2 (nb_new w (.cells zMd 36))
 have kb : ((w.alloc (.cells zMd 36)).alloc (.cells (stAr s) 27)).heap[w.heap.size + 1]? = some (.cells (stAr s) 27):=nb_at (by simp)
 have g0 : ((w.alloc (.cells zMd 36)).alloc (.cells (stAr s) 27)).cell? ⟨w.heap.size,0,none⟩ = some (.slice none 0 0):=cell_at ka
 have g1 : ((w.alloc (.cells zMd 36)).alloc (.cells (stAr s) 27)).cell? ⟨w.heap.size,1,none⟩ = some (.slice none 0 0):=cell_at ka
 have g2 : ((w.alloc (.cells zMd 36)).alloc (.cells (stAr s) 27)).cell? ⟨w.heap.size,2,none⟩ = some (.slice none 0 0):=cell_at ka
 have g3 : ((w.alloc (.cells zMd 36)).alloc (.cells (stAr s) 27)).cell? ⟨w.heap.size,3,none⟩ = some (.int .i64 0):=cell_at ka
 have g4 : ((w.alloc (.cells zMd 36)).alloc (.cells (stAr s) 27)).cell? ⟨w.heap.size,4,none⟩ = some (.int .i64 0):=cell_at ka
 have g5 : ((w.alloc (.cells zMd 36)).alloc (.cells (stAr s) 27)).cell? ⟨w.heap.size,5,none⟩ = some (.slice none 0 0):=cell_at ka
 have g6 : ((w.alloc (.cells zMd 36)).alloc (.cells (stAr s) 27)).cell? ⟨w.heap.size,6,none⟩ = some (.slice none 0 0):=cell_at ka
 have g7 : ((w.alloc (.cells zMd 36)).alloc (.cells (stAr s) 27)).cell? ⟨w.heap.size,7,none⟩ = some (.slice none 0 0):=cell_at ka
 have HC:=hid (fun (W : World) (hb : Below ((w.alloc (.cells zMd 36)).alloc (.cells (stAr s) 27)).heap.size ((w.alloc (.cells zMd 36)).alloc (.cells (stAr s) 27)) W) => (⟨later_cell hb (cell_at kb),later_cell hb (cell_at kb),later_cell hb (cell_at kb),later_cell hb (cell_at kb),later_cell hb (cell_at kb),later_cell hb (cell_at kb),later_cell hb (cell_at kb),later_cell hb (cell_at kb)⟩ : W.cell? ⟨w.heap.size + 1,0,none⟩ = some (.slice s.fa s.fn s.fc) ∧ W.cell? ⟨w.heap.size + 1,1,none⟩ = some (.slice s.ga s.gn s.gc) ∧ W.cell? ⟨w.heap.size + 1,2,none⟩ = some (.slice s.pa s.pn s.pc) ∧ W.cell? ⟨w.heap.size + 1,3,none⟩ = some (.int .i64 s.rep) ∧ W.cell? ⟨w.heap.size + 1,4,none⟩ = some (.int .i8 s.en) ∧ W.cell? ⟨w.heap.size + 1,5,none⟩ = some (.slice s.ra s.rn s.rc) ∧ W.cell? ⟨w.heap.size + 1,6,none⟩ = some (.int .i8 s.tr) ∧ W.cell? ⟨w.heap.size + 1,7,none⟩ = some (.int .i64 s.us)))
 clear B1 B2 ka kb
 go_enter Tryz.func4,Tryz.ntmps4
 go_wp2_with fail
 generalize ((w.alloc (.cells zMd 36)).alloc (.cells (stAr s) 27)) = W0 at *
 refine (H12.out W0).mono ?_
 rintro e w5 ⟨rfl,hb5⟩
 obtain ⟨c0,c1,c2,c3,c4,c5,c6,c7⟩:=HC.out w5 hb5
 have B5:=hid (B0.out.trans (hb5.mono B0.out.size))
 have HB5:=hid hb5
 clear hb5 g0 g1 g2 g3 g4 g5 g6 g7
 go_wp2_with fail
 refine (H11.out 0 w5).mono ?_
 rintro e w6 ⟨rfl,hw6⟩
 subst hw6
 have d0 : decide ((0 : Int) > 2147483647) = false:=by decide
 rw [d0]
 clear d0
 go_wp2_with fail
 refine (H13.out _ B5.out).mono ?_
 rintro e w7 ⟨z,rfl,hz,hb7⟩
 have HZ:=hid hz
 obtain ⟨x0,x1,x2,x3,x4,x5,x6,x7⟩:=HC.out w7 (HB5.out.trans (hb7.mono HB5.out.size))
 have B7:=hid (B5.out.trans (hb7.mono B5.out.size))
 clear hz hb7 c0 c1 c2 c3 c4 c5 c6 c7
 go_wp2_with fail
 refine (H11.out _ w7).mono ?_
 rintro e w8 ⟨rfl,hw8⟩
 subst hw8
 by_cases hzb : (z : Int) > 2147483647
 ·rw [decide_eq_true hzb]
  clear hzb
  go_wp2_with fail
  go_ret
  exact ⟨true,rfl,(fun h => by cases h),B7.out⟩
 ·rw [decide_eq_false hzb]
  have HS:=hid (HZ.out (by omega))
  clear hzb HZ
  go_wp2_with fail
  refine (H14.out w8).mono ?_
  rintro e w9 ⟨rfl,hw9⟩
  subst hw9
  go_wp2_with fail
  refine (H11.out 0 w9).mono ?_
  rintro e w10 ⟨rfl,hw10⟩
  subst hw10
  have d0 : decide ((0 : Int) > 2147483647) = false:=by decide
  rw [d0]
  clear d0
  by_cases hp : (70 : Int) < (s.pn : Int)
  ·go_wp2_with fail
   go_ret
   exact ⟨true,rfl,(fun h => by cases h),B7.out⟩
  ·by_cases hf : (100 : Int) < (s.fn : Int)
   ·go_wp2_with fail
    go_ret
    exact ⟨true,rfl,(fun h => by cases h),B7.out⟩
   ·have hp' : decide ((70 : Int) < (s.pn : Int)) = false:=decide_eq_false hp
    have hf' : decide ((100 : Int) < (s.fn : Int)) = false:=decide_eq_false hf
    go_wp2_with fail
    go_ret
    exact ⟨false,rfl,(fun _ => ⟨HS.out,by omega,by omega⟩),B7.out⟩
section
variable {v : Ev} {w1 w : World} {s : Cs}
structure CW (s : Cs) (k : Nat) (o : Opn) : Prop where
 len : s.op.length = k + 1
 le : k < 64
 last : s.op[k]? = some o
 base : o.B.size ≤ s.st.size
 big : s.st.size ≤ 1000000
theorem CI.top (h : CI v w1 w s) {k : Nat} {o : Opn} (hw : CW s k o) : ∃ OB oc,w.cell? ⟨v.C,14,none⟩ = some (.slice (some ⟨OB,0,none⟩) (k + 1) oc) ∧
  w.cell? ⟨OB,k * 5,none⟩ = some (.string o.P) ∧ w.cell? ⟨OB,k * 5 + 1,none⟩ = some (.string o.R) ∧ w.cell? ⟨OB,k * 5 + 2,none⟩ = some (.string o.B) ∧ w.cell? ⟨OB,k * 5 + 3,none⟩ = some (.int .u8 o.op) ∧ w.cell? ⟨OB,k * 5 + 4,none⟩ = some (.int .i64 o.pc):=by
 obtain ⟨OB,oc,h1,h2,h3⟩:=h.opn
 rw [hw.len] at h1
 exact ⟨OB,oc,h1,h3 k o hw.last⟩
theorem held_ab {C OB i : Nat} {st B : ByteArray} {w W W' : World} (hb : Below W.heap.size W W') (h : W.cell? ⟨C,15,none⟩ = some (.string st) ∧ W.cell? ⟨OB,i,none⟩ = some (.string B) ∧ Below w.heap.size w W) :
  W'.cell? ⟨C,15,none⟩ = some (.string st) ∧ W'.cell? ⟨OB,i,none⟩ = some (.string B) ∧ Below w.heap.size w W' :=
 ⟨later_cell hb h.1,later_cell hb h.2.1,h.2.2.trans (hb.mono h.2.2.size)⟩
theorem above235 (h : CI v w1 w s) {k : Nat} {o : Opn} (hw : CW s k o) : Calls Tryz.prog 132 #[.pointer (some ⟨v.C,0,none⟩)] w fun e w' => e = .returned (.string (s.st.extract o.B.size s.st.size)) ∧ Below w.heap.size w w':=by
 obtain ⟨OB,oc,h1,x0,x1,x2,x3,x4⟩:=h.top hw
 have hst:=h.st
 have HI:=hid (fun W (hb : Below w.heap.size w W) => inner230 (w:=W) (later_cell hb h1) hw.le)
 have hb1:=hw.base
 have hb2:=hw.big
 clear x0 x1 x3 x4 h h1
 generalize s.st = st at *
 generalize o.B = B at *
 go_enter Tryz.func132,Tryz.ntmps132
 go_wp2_with fail
 go_region_held3 (fun W => W.cell? ⟨v.C,15,none⟩ = some (.string st) ∧ W.cell? ⟨OB,k * 5 + 2,none⟩ = some (.string B) ∧ Below w.heap.size w W)
  (first | assumption | exact ⟨hst,x2,(Below.refl _ _).drew⟩)
  (first
   | (go_at_call 127; refine (HI.out _ (And.right (And.right (by assumption)))).mono ?_; rintro e w' ⟨rfl,hbx⟩; have hS':=held_ab hbx (by assumption); clear hbx))
 go_wp2_with fail
 go_ret
 exact ⟨rfl,hS'.2.2⟩
def askE (s : Cs) (o : Opn) (t : ByteArray) : Int:=if topB (s.st.extract o.B.size s.st.size) t = true then 0 else 33
theorem ask169 (hA : EvA v w1) (h : CI v w1 w s) {k : Nat} {o : Opn} (hw : CW s k o) (t : ByteArray) (ht : t.size ≤ 1000000) : Calls Tryz.prog 100 #[.pointer (some ⟨v.C,0,none⟩),.string t] w (Rdz w (askE s o t) unitV):=by
 have H1:=hid (above235 h hw)
 have hz : (s.st.extract o.B.size s.st.size).size ≤ 1073741824:=by
  have:=hw.big
  simp; omega
 have H2:=hid (fun W => top234 (s.st.extract o.B.size s.st.size) t W hz (by omega))
 clear h
 have hT : topB (s.st.extract o.B.size s.st.size) t = true → askE s o t = 0:=fun h => by simp [askE,h]
 have hF : topB (s.st.extract o.B.size s.st.size) t = false → askE s o t = 33:=fun h => by simp [askE,h]
 generalize askE s o t = E at *
 generalize s.st.extract o.B.size s.st.size = a at *
 generalize topB a t = b at *
 go_enter Tryz.func100,Tryz.ntmps100
 go_wp2_with fail
 refine H1.out.mono ?_
 rintro e w2 ⟨rfl,hb⟩
 go_wp2_with fail
 refine (H2.out _).mono ?_
 rintro e w3 ⟨rfl,hb3⟩
 have HB:=hid (hb.trans (hb3.mono hb.size))
 go_wp2_with fail
 refine (mustB _ _ _).mono ?_
 rintro e w4 (⟨hb,rfl,rfl⟩ | ⟨hb,rfl,rfl⟩)
 ·go_wp2_with fail
  go_end0
  exact .inl ⟨hT hb,rfl,HB.out⟩
 ·have hE:=hF hb
  subst hE
  exact ⟨rfl,.inr ⟨by decide,rfl,HB.out⟩⟩
def takeS (s : Cs) (t : ByteArray) : Cs:={ s with st:=s.st.extract 0 (s.st.size - t.size) }
theorem askE_le {s : Cs} {o : Opn} {t : ByteArray} (h : askE s o t = 0) : t.size ≤ (s.st.extract o.B.size s.st.size).size:=by
 unfold askE at h
 split at h
 ·rename_i hb
  simp only [topB,Bool.and_eq_true] at hb
  exact ends_le hb.2
 ·cases h
theorem take173 (hA : EvA v w1) (h : CI v w1 w s) {k : Nat} {o : Opn} (hw : CW s k o) (t : ByteArray) (ht : t.size ≤ 1000000) : Calls Tryz.prog 104 #[.pointer (some ⟨v.C,0,none⟩),.string t] w (Doz v w1 w s.pc (askE s o t) unitV (takeS s t)):=by
 have H1:=hid (ask169 hA h hw t ht)
 have hle:=@askE_le s o t
 have hbig:=hw.big
 have H0:=hid h
 clear h
 go_enter Tryz.func104,Tryz.ntmps104
 go_wp2_with fail
 refine H1.out.mono ?_
 rintro e w2 (⟨h0,rfl,hb2⟩ | ⟨h0,rfl,hb2⟩)
 ·have hc:=H0.out.later hA hb2
  have HB2:=hid hb2
  have hle' : t.size ≤ s.st.size:=by
   have:=hle h0
   simp at this; omega
  have hsub : ((s.st.size : Int) - (t.size : Int) + 9223372036854775808) % 18446744073709551616 - 9223372036854775808 = ((s.st.size - t.size : Nat) : Int):=sub_wrap hle' (by omega)
  have hst:=hc.st
  have hfr:=hc.free 15
  have HC:=hid hc
  have HD:=hid (show takeS s t = { s with st:=s.st.extract 0 (s.st.size - t.size) } from rfl)
  have hd1 : (0 : Int) ≤ ((s.st.size - t.size : Nat) : Int):=by omega
  have hd2 : ((s.st.size - t.size : Nat) : Int) ≤ (s.st.size : Int):=by omega
  have hsub2 : IntKind.i64.wrap ((s.st.size : Int) - (t.size : Int)) = ((s.st.size - t.size : Nat) : Int):=by
   simp [IntKind.wrap,IntKind.bits,IntKind.signed]; omega
  generalize s.st.size - t.size = d at *
  clear hc hle hb2
  go_wp2_with fail
  go_region
  go_wp2_with fail
  go_end0
  refine .inl ⟨h0,rfl,?_,((kept_of HB2.out).trans (kept_set _ _ _ _)).trans (Kept.drewN _ _ 1)⟩
  rw [HD.out]
  exact (HC.out.putSt hA _).later hA (below_drewN _ 1)
 ·exact ⟨rfl,.inr ⟨h0,rfl,(H0.out.later hA hb2).bad⟩⟩
end
section
variable {v : Ev} {w1 w : World} {s : Cs}
def putS (s : Cs) (t : ByteArray) : Cs:={ s with st:=pushV s.st t }
theorem put176 (hA : EvA v w1) (h : CI v w1 w s) (t : ByteArray) (hs : s.st.size ≤ 1000000) (ht : t.size ≤ 1000000) : Calls Tryz.prog 107 #[.pointer (some ⟨v.C,0,none⟩),.string t] w (Doz v w1 w s.pc (pushE s.st t) unitV (putS s t)):=by
 have H1:=hid (fun W => push242 s.st t W (by omega) (by omega))
 have hst:=h.st
 have HC:=hid h
 have HD:=hid (show putS s t = { s with st:=pushV s.st t } from rfl)
 clear h
 generalize pushE s.st t = E at *
 generalize pushV s.st t = V at *
 by_cases hE : E = 0
 ·subst hE
  go_enter Tryz.func107,Tryz.ntmps107
  go_wp2_with fail
  refine (H1.out _).mono ?_
  rintro e w2 ⟨rfl,hb⟩
  have HC2:=hid (HC.out.later hA hb)
  have HB2:=hid hb
  clear hb hst
  go_wp2_with fail
  refine (must_yes _ _).mono ?_
  rintro e w3 ⟨rfl,rfl⟩
  have hfr:=HC2.out.free 15
  have hst:=HC2.out.st
  go_wp2_with fail
  go_end0
  refine .inl ⟨rfl,rfl,?_,(kept_of HB2.out).trans (kept_set _ _ _ _)⟩
  rw [HD.out]
  exact HC2.out.putSt hA _
 ·have hE' : decide (E = 0) = false:=by simp [hE]
  go_enter Tryz.func107,Tryz.ntmps107
  go_wp2_with fail
  refine (H1.out _).mono ?_
  rintro e w2 ⟨rfl,hb⟩
  have HC2:=hid (HC.out.later hA hb)
  have HB2:=hid hb
  clear hb hst
  go_wp2_with fail
  refine (mustB _ _ _).mono ?_
  rintro e w3 (⟨hb,rfl,rfl⟩ | ⟨hb,rfl,rfl⟩)
  ·exact absurd hb (by simp [hE])
  ·exact ⟨rfl,.inr ⟨hE,rfl,HC2.out.bad⟩⟩
def leaveS (s : Cs) (o : Opn) : Cs:={ s with dead:=true,st:=pushV o.B o.R }
theorem putS_leave (s : Cs) (o : Opn) : putS { s with dead:=true,st:=o.B } o.R = leaveS s o:=rfl
theorem leave172 (hA : EvA v w1) (h : CI v w1 w s) {k : Nat} {o : Opn} (hw : CW s k o) (hB : o.B.size ≤ 1000000) (hR : o.R.size ≤ 1000000) : Calls Tryz.prog 103 #[.pointer (some ⟨v.C,0,none⟩)] w (Doz v w1 w s.pc (pushE o.B o.R) unitV (leaveS s o)):=by
 have h1:=h.putDead hA true
 have hd:=h.dead
 have hfr:=h.free 17
 have hw1 : CW { s with dead:=true } k o:=⟨hw.len,hw.le,hw.last,hw.base,hw.big⟩
 obtain ⟨OB,oc,x14,x0,x1,x2,x3,x4⟩:=h1.top hw1
 have y15:=h1.st
 have f15:=h1.free 15
 have H1:=hid h1
 have K1:=hid (kept_set w v.C 17 (.bool true))
 clear h
 go_enter Tryz.func103,Tryz.ntmps103
 go_wp2_with fail
 generalize w.setCell ⟨v.C,17,none⟩ (.bool true) = W at *
 refine (inner230 x14 hw.le).mono ?_
 rintro e w2 ⟨rfl,hb⟩
 have H2:=hid (H1.out.later hA hb)
 have K2:=hid (K1.out.trans (kept_of hb))
 have z15:=later_cell hb y15
 have zf:=H2.out.free 15
 have z2:=later_cell hb x2
 clear hb x0 x1 x2 x3 x4 x14 y15 f15 h1 hd hfr
 go_wp2_with fail
 have H3:=hid (H2.out.putSt hA o.B)
 have K3:=hid (K2.out.trans (kept_set w2 v.C 15 (.string o.B)))
 have hw3 : CW { s with dead:=true,st:=o.B } k o:=⟨hw.len,hw.le,hw.last,Nat.le_refl _,hB⟩
 generalize w2.setCell ⟨v.C,15,none⟩ (.string o.B) = W3 at *
 obtain ⟨OB',oc',x14,x0,x1,x2,x3,x4⟩:=H3.out.top hw3
 refine (inner230 x14 hw.le).mono ?_
 rintro e w4 ⟨rfl,hb⟩
 have H4:=hid (H3.out.later hA hb)
 have K4:=hid (K3.out.trans (kept_of hb))
 have z1:=later_cell hb x1
 clear hb x0 x1 x2 x3 x4 x14 z15 zf z2
 go_wp2_with fail
 refine (put176 hA H4.out o.R hB hR).mono ?_
 rintro e w5 (⟨h0,rfl,hc,hk⟩ | ⟨h0,rfl,hb⟩)
 ·rw [putS_leave] at hc
  have HC:=hid hc
  have HK:=hid (K4.out.trans hk)
  clear hc hk
  go_wp2_with fail
  go_end0
  exact .inl ⟨h0,rfl,HC.out,HK.out⟩
 ·exact ⟨rfl,.inr ⟨h0,rfl,hb⟩⟩
end
section
variable {v : Ev} {w1 w : World} {s : Cs}
theorem label170_yes {C OB k oc n : Nat} (h14 : w.cell? ⟨C,14,none⟩ = some (.slice (some ⟨OB,0,none⟩) (k + 1) oc)) (hk : k < 64) (hn : n ≤ k) :
  Calls Tryz.prog 101 #[.pointer (some ⟨C,0,none⟩),.int .i64 n] w fun e w' => e = .returned (.pointer (some ⟨OB,(k - n) * 5,none⟩)) ∧ Below w.heap.size w w':=by
 have g0 : (0 : Int) ≤ (n : Int):=by omega
 go_enter Tryz.func101,Tryz.ntmps101
 go_wp2_with fail
 refine (mustB _ _ _).mono ?_
 rintro e w3 (⟨hb,rfl,rfl⟩ | ⟨hb,rfl,rfl⟩)
 ·clear hb
  go_wp2_with fail
  go_quiet (fail)
  go_wp2_with fail
  go_ret
  refine ⟨?_,below_drewN _ _⟩
  congr 5
 ·exact absurd hb (by simp; omega)
theorem label170_no {C OB k oc : Nat} {n : Int} (h14 : w.cell? ⟨C,14,none⟩ = some (.slice (some ⟨OB,0,none⟩) (k + 1) oc)) (hk : k < 64) (hn : n < 0 ∨ (k : Int) < n) :
  Calls Tryz.prog 101 #[.pointer (some ⟨C,0,none⟩),.int .i64 n] w fun e w' => e = thv 31 ∧ Below w.heap.size w w':=by
 by_cases g0 : 0 ≤ n
 ·go_enter Tryz.func101,Tryz.ntmps101
  go_wp2_with fail
  refine (mustB _ _ _).mono ?_
  rintro e w3 (⟨hb,rfl,rfl⟩ | ⟨hb,rfl,rfl⟩)
  ·exact absurd hb (by simp; omega)
  ·exact ⟨rfl,rfl,Below.refl _ _⟩
 ·have g1 : n < 0:=by omega
  go_enter Tryz.func101,Tryz.ntmps101
  go_wp2_with fail
  refine (mustB _ _ _).mono ?_
  rintro e w3 (⟨hb,rfl,rfl⟩ | ⟨hb,rfl,rfl⟩)
  ·exact absurd hb (by simp)
  ·exact ⟨rfl,rfl,Below.refl _ _⟩
def brg (o : Opn) : ByteArray:=if o.op = 3 then o.P else o.R
theorem brings171 {b i : Nat} (P R : ByteArray) (op : Int) (h0 : w.cell? ⟨b,i,none⟩ = some (.string P)) (h1 : w.cell? ⟨b,i + 1,none⟩ = some (.string R)) (h3 : w.cell? ⟨b,i + 3,none⟩ = some (.int .u8 op)) :
  Calls Tryz.prog 102 #[.pointer (some ⟨b,i,none⟩)] w fun e w' => e = .returned (.string (if op = 3 then P else R)) ∧ w' = w:=by
 by_cases g : op = 3
 ·subst g
  rw [if_pos rfl]
  go_enter Tryz.func102,Tryz.ntmps102
  go_wp2_with fail
  go_ret
  exact ⟨rfl,rfl⟩
 ·rw [if_neg g]
  go_enter Tryz.func102,Tryz.ntmps102
  go_wp2_with fail
  go_ret
  exact ⟨rfl,rfl⟩
def labE (s : Cs) (n : Int) : Int:=if 0 ≤ n ∧ n < s.op.length then 0 else 31
def labO (s : Cs) (n : Int) : Opn:=s.op.getD (s.op.length - 1 - n.toNat) ⟨⟨#[]⟩,⟨#[]⟩,⟨#[]⟩,0,0⟩
theorem labO_of {s : Cs} {k j : Nat} {o : Opn} (hk : s.op.length = k + 1) (hj : j ≤ k) (ho : s.op[k - j]? = some o) : labO s (j : Int) = o:=by
 unfold labO
 rw [hk]
 simp only [Int.toNat_natCast,Nat.add_sub_cancel]
 rw [List.getD_eq_getElem?_getD,ho]
 rfl
def comE (s : Cs) (l : List Int) : Int :=
 if (l.all fun n => labE s n == 0) = true then (if (l.all fun n => (brg (labO s n)).toList == (brg (labO s (l.getD 0 0))).toList) = true then 0 else 32) else 31
theorem labE_yes {s : Cs} {k : Nat} {z : Int} (hk : s.op.length = k + 1) (h : labE s z = 0) : ∃ q : Nat,z = (q : Int) ∧ q ≤ k:=by
 unfold labE at h
 split at h
 ·rename_i g
  exact ⟨z.toNat,by omega,by omega⟩
 ·cases h
theorem labE_no {s : Cs} {k : Nat} {z : Int} (hk : s.op.length = k + 1) (h : labE s z ≠ 0) : labE s z = 31 ∧ (z < 0 ∨ (k : Int) < z):=by
 unfold labE at h ⊢
 split at h
 ·exact absurd rfl h
 ·rename_i g
  exact ⟨if_neg g,by omega⟩
theorem all_of {l : List Int} {p : Int → Bool} (h : ∀ j,j < l.length → p (l.getD j 0) = true) : l.all p = true:=by
 rw [List.all_eq_true]
 intro x hx
 obtain ⟨j,hj,rfl⟩:=List.getElem_of_mem hx
 have:=h j hj
 rwa [List.getD_eq_getElem?_getD,List.getElem?_eq_getElem hj] at this
theorem all_not {l : List Int} {p : Int → Bool} {j : Nat} (hj : j < l.length) (h : p (l.getD j 0) = false) : l.all p = false:=by
 rw [List.all_eq_false]
 refine ⟨l[j],List.getElem_mem hj,?_⟩
 rw [List.getD_eq_getElem?_getD,List.getElem?_eq_getElem hj] at h
 simpa using h
theorem label170 (h : CI v w1 w s) {k : Nat} {o : Opn} (hw : CW s k o) (z : Int) (he : labE s z = 0) :
  Calls Tryz.prog 101 #[.pointer (some ⟨v.C,0,none⟩),.int .i64 z] w fun e w' => ∃ b i,e = .returned (.pointer (some ⟨b,i,none⟩)) ∧ Below w.heap.size w w' ∧
   w'.cell? ⟨b,i,none⟩ = some (.string (labO s z).P) ∧ w'.cell? ⟨b,i + 1,none⟩ = some (.string (labO s z).R) ∧ w'.cell? ⟨b,i + 3,none⟩ = some (.int .u8 (labO s z).op):=by
 obtain ⟨q,rfl,hq⟩:=labE_yes hw.len he
 obtain ⟨OB,oc,h1,h2,h3⟩:=h.opn
 have hlt : k - q < s.op.length:=by have:=hw.len; omega
 obtain ⟨p,hp⟩ : ∃ p,s.op[k - q]? = some p:=⟨_,List.getElem?_eq_getElem hlt⟩
 obtain ⟨x0,x1,x2,x3,x4⟩:=h3 _ p hp
 rw [hw.len] at h1
 rw [labO_of hw.len hq hp]
 refine (label170_yes h1 hw.le hq).mono ?_
 rintro e w' ⟨rfl,hb⟩
 exact ⟨_,_,rfl,hb,later_cell hb x0,later_cell hb x1,later_cell hb x3⟩
theorem label170_bad (hA : EvA v w1) (h : CI v w1 w s) {k : Nat} {o : Opn} (hw : CW s k o) (z : Int) (he : labE s z ≠ 0) :
  Calls Tryz.prog 101 #[.pointer (some ⟨v.C,0,none⟩),.int .i64 z] w fun e w' => e = thv 31 ∧ Below w.heap.size w w':=by
 obtain ⟨OB,oc,h1,h2,h3⟩:=h.opn
 rw [hw.len] at h1
 refine (label170_no h1 hw.le (labE_no hw.len he).2).mono ?_
 rintro e w' ⟨rfl,hb⟩
 exact ⟨rfl,hb⟩
theorem brings_of {b i : Nat} {o : Opn} (h0 : w.cell? ⟨b,i,none⟩ = some (.string o.P)) (h1 : w.cell? ⟨b,i + 1,none⟩ = some (.string o.R)) (h3 : w.cell? ⟨b,i + 3,none⟩ = some (.int .u8 o.op)) :
  Calls Tryz.prog 102 #[.pointer (some ⟨b,i,none⟩)] w fun e w' => e = .returned (.string (brg o)) ∧ w' = w:=brings171 _ _ _ h0 h1 h3
theorem common174 (hA : EvA v w1) (h : CI v w1 w s) {k : Nat} {o : Opn} (hw : CW s k o) (a : Option Addr) (n cap : Nat) (l : List Int) (hl : SegJ w1 a n cap l) (hn : 0 < n) (hS : ∀ b off,a = some ⟨b,off,none⟩ → n ≠ 0 → ¬ v.S b) :
  Calls Tryz.prog 105 #[.pointer (some ⟨v.C,0,none⟩),.slice a n cap] w (Rdz w (comE s l) (.string (brg (labO s (l.getD 0 0))))):=by
 have hlen:=hl.1
 have hcap:=hl.2.1
 have hbig:=hl.2.2.1
 obtain ⟨ab,off,rfl,hc0⟩ : ∃ b off,a = some ⟨b,off,none⟩ ∧ ∀ W,CI v w1 W s → ∀ j,j < n → W.cell? ⟨b,off + j,none⟩ = some (.int .i64 (l.getD j 0)):=by
  rcases hl.2.2.2.2 with h0 | ⟨b,off,rfl,hc⟩
  ·omega
  ·exact ⟨b,off,rfl,fun W hW j hj => hW.kept.cell (hc j hj) (hS b off rfl (by omega))⟩
 have HCL:=hid hc0
 have HC:=hid h
 have HE:=hid (show ∀ j,j < n → labE s (l.getD j 0) ≠ 0 → comE s l = 31 from fun j hj hx => by
  have hx' : (labE s (l.getD j 0) == 0) = false:=by simpa using hx
  have:=all_not (p:=fun n => labE s n == 0) (by omega : j < l.length) hx'
  unfold comE; rw [this]; simp)
 have HF:=hid (show (∀ j,j < n → labE s (l.getD j 0) = 0) → ∀ j,j < n → ((brg (labO s (l.getD j 0))).toList == (brg (labO s (l.getD 0 0))).toList) = false → comE s l = 32 from fun hy j hj hx => by
  have h1:=all_of (l:=l) (p:=fun n => labE s n == 0) (fun j hj => by have:=hy j (by omega); simpa using this)
  have h2:=all_not (p:=fun n => (brg (labO s n)).toList == (brg (labO s (l.getD 0 0))).toList) (by omega : j < l.length) hx
  unfold comE; rw [h1,h2]; simp)
 have HG:=hid (show (∀ j,j < n → labE s (l.getD j 0) = 0) → (∀ j,j < n → ((brg (labO s (l.getD j 0))).toList == (brg (labO s (l.getD 0 0))).toList) = true) → comE s l = 0 from fun hy hz => by
  have h1:=all_of (l:=l) (p:=fun n => labE s n == 0) (fun j hj => by have:=hy j (by omega); simpa using this)
  have h2:=all_of (l:=l) (p:=fun n => (brg (labO s n)).toList == (brg (labO s (l.getD 0 0))).toList) (fun j hj => hz j (by omega))
  unfold comE; rw [h1,h2]; simp)
 generalize comE s l = E at *
 obtain ⟨z0,hz0⟩ : ∃ z,l.getD 0 0 = z:=⟨_,rfl⟩
 have HZ0:=hid hz0
 rw [hz0] at HG HF ⊢
 clear h hc0 hl hS hz0
 go_enter Tryz.func105,Tryz.ntmps105
 go_wp2_with fail
 go_loopw [12] (fun i wr => ∃ j : Nat,j ≤ n ∧ i = .int .i64 j ∧ (∀ m,m < j → labE s (l.getD m 0) = 0) ∧ Below w.heap.size w wr) (fun i _ => n - (intOf i).toNat)
 case atStart => exact ⟨0,by omega,rfl,fun m hm => by omega,Below.refl _ _⟩
 case round =>
  obtain ⟨j,hj,rfl,hall,hc⟩:=hrel
  have HA1:=hid hall
  have HB1:=hid hc
  have HC1:=hid (HC.out.later hA hc)
  clear hall hc
  by_cases hlt : j < n
  ·have hx:=HCL.out wr HC1.out j hlt
   have hlt' : (j : Int) < n:=by omega
   have HEJ:=hid (HE.out j hlt)
   obtain ⟨z,hz⟩ : ∃ z,l.getD j 0 = z:=⟨_,rfl⟩
   have HZ:=hid hz
   rw [hz] at hx HEJ
   clear hz
   by_cases he : labE s z = 0
   ·have HL:=hid (label170 HC1.out hw _ he)
    go_wp2_with fail
    refine HL.out.mono ?_
    rintro e w2 ⟨b,i,rfl,hb,y0,y1,y3⟩
    have HB2:=hid (HB1.out.trans (hb.mono HB1.out.size))
    clear hb y0 y1 y3
    go_wp2_with fail
    go_roundw
    case rel => exact ⟨j + 1,by omega,by simp,fun m hm => by
     rcases Nat.lt_or_ge m j with g | g
     ·exact HA1.out m g
     ·obtain rfl : m = j:=by omega
      rw [HZ.out]; exact he,HB2.out⟩
    case measure => simp [intOf]; omega
   ·have HL:=hid (label170_bad hA HC1.out hw _ he)
    have hE:=HEJ.out he
    subst hE
    go_wp2_with fail
    refine HL.out.mono ?_
    rintro e w2 ⟨rfl,hb⟩
    exact ⟨rfl,.inr ⟨by decide,rfl,HB1.out.trans (hb.mono HB1.out.size)⟩⟩
  ·obtain rfl : j = n:=by omega
   have hge : ¬ (j : Int) < j:=by omega
   have hx:=HCL.out wr HC1.out 0 hn
   simp only [Nat.add_zero] at hx
   have he:=HA1.out 0 hn
   have HG1:=hid (HG.out HA1.out)
   have HF1:=hid (HF.out HA1.out)
   rw [HZ0.out] at hx he
   have HL:=hid (label170 HC1.out hw _ he)
   clear HE HF HG HZ0
   go_wp2_with fail
   refine HL.out.mono ?_
   rintro e w2 ⟨b,i,rfl,hb,y0,y1,y3⟩
   have HB2:=hid (HB1.out.trans (hb.mono HB1.out.size))
   clear hb
   go_wp2_with fail
   refine (brings_of y0 y1 y3).mono ?_
   rintro e w3 ⟨rfl,hw3⟩
   obtain rfl:=hw3.symm
   obtain ⟨L,hL⟩ : ∃ L,brg (labO s z0) = L:=⟨_,rfl⟩
   rw [hL] at HG1 HF1 ⊢
   clear y0 y1 y3 HL hx HC1 HB1
   go_wp2_with fail
   generalize w2 = wz at *
   go_loopw [28] (fun i wr => ∃ m : Nat,m ≤ j ∧ i = .int .i64 m ∧ (∀ q,q < m → ((brg (labO s (l.getD q 0))).toList == L.toList) = true) ∧ Below w.heap.size w wr) (fun i _ => j - (intOf i).toNat)
   case atStart => exact ⟨0,by omega,rfl,fun m hm => by omega,HB2.out⟩
   case round =>
    obtain ⟨m,hm,rfl,hall,hc⟩:=hrel
    have HA2:=hid hall
    have HB3:=hid hc
    have HC3:=hid (HC.out.later hA hc)
    clear hall hc
    by_cases hlt : m < j
    ·have hx:=HCL.out _ HC3.out m hlt
     have hlt' : (m : Int) < j:=by omega
     have he:=HA1.out m hlt
     have HFM:=hid (HF1.out m hlt)
     obtain ⟨z,hz⟩ : ∃ z,l.getD m 0 = z:=⟨_,rfl⟩
     have HZ:=hid hz
     rw [hz] at hx he HFM
     clear hz
     have HL:=hid (label170 HC3.out hw _ he)
     go_wp2_with fail
     refine HL.out.mono ?_
     rintro e w4 ⟨b,i,rfl,hb,y0,y1,y3⟩
     have HB4:=hid (HB3.out.trans (hb.mono HB3.out.size))
     clear hb
     go_wp2_with fail
     refine (brings_of y0 y1 y3).mono ?_
     rintro e w5 ⟨rfl,hw5⟩
     obtain rfl:=hw5.symm
     clear y0 y1 y3 HL hx
     go_wp2_with fail
     refine (mustB _ _ _).mono ?_
     rintro e w6 (⟨hb,rfl,rfl⟩ | ⟨hb,rfl,rfl⟩)
     ·have HB:=hid hb
      clear hb
      go_wp2_with fail
      go_roundw
      case rel => exact ⟨m + 1,by omega,by simp,fun q hq => by
       rcases Nat.lt_or_ge q m with g | g
       ·exact HA2.out q g
       ·obtain rfl : q = m:=by omega
        rw [HZ.out]; exact HB.out,HB4.out⟩
      case measure => simp [intOf]; omega
     ·have hE:=HFM.out hb
      subst hE
      exact ⟨rfl,.inr ⟨by decide,rfl,HB4.out⟩⟩
    ·obtain rfl : m = j:=by omega
     have hE:=HG1.out HA2.out
     subst hE
     go_wp2_with fail
     go_ret
     exact .inl ⟨rfl,rfl,HB3.out⟩
end
end Go.Proofs.YtmgjhfookhaajaaGreatDoor
