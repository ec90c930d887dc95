/-
  Texts Lda Wd.
-/
import Derived.Laws.BytesArg
import Derived.Test.YtepcmfegggdjfaaGreatDoorQ01
import Derived.Test.YtepcmfegggdjfaaGreatDoorQ05
set_option linter.unusedVariables false
set_option maxRecDepth 100000
set_option maxHeartbeats 16000000
namespace Go.Proofs.YtepcmfegggdjfaaGreatDoor
open Go.RowKit
theorem inf81 : ∃ i,Tryz.prog.info? 51 = some i ∧ i.zero = some (.agg #[.int .i64 0,.slice none 0 0]) ∧ i.size = 2 ∧ i.bytes = 32:=by
 have h : (Tryz.prog.info? 51).map (fun i => (i.zero,i.size,i.bytes)) = some (some (.agg #[.int .i64 0,.slice none 0 0]),2,32):=by kernel_rfl
 cases hi : Tryz.prog.info? 51 with
 | none => rw [hi] at h; cases h
 | some i => rw [hi] at h; simp at h; exact ⟨i,rfl,h.1,h.2.1,h.2.2⟩
def ocDa (y : (Int × (Option Addr × Nat × Nat))) : List Value:=[.int .i64 y.1,.slice y.2.1 y.2.2.1 y.2.2.2]
abbrev ivDa (x : (Int × (Option Addr × Nat × Nat) × List Int)) : Value:=.agg #[.int .i64 x.1,.slice x.2.1.1 x.2.1.2.1 x.2.1.2.2]
abbrev ovDa (y : (Int × (Option Addr × Nat × Nat))) : Value:=.agg #[.int .i64 y.1,.slice y.2.1 y.2.2.1 y.2.2.2]
def AtDa (w : World) (a : Option Addr) (n : Nat) (xs : List (Int × (Option Addr × Nat × Nat) × List Int)) : Prop :=
 xs.length = n ∧ (n = 0 ∨ ∃ b off,a = some ⟨b,off,none⟩ ∧ ∀ (j : Nat) x,xs[j]? = some x → w.cell? ⟨b,off + j * 2,none⟩ = some (.int .i64 x.1) ∧ w.cell? ⟨b,off + j * 2 + 1,none⟩ = some (.slice x.2.1.1 x.2.1.2.1 x.2.1.2.2))
theorem AtDa.kept {S : Nat → Prop} {w w' : World} {a : Option Addr} {n : Nat} {xs : List (Int × (Option Addr × Nat × Nat) × List Int)} (h : AtDa w a n xs) (hk : Kept S w w') (hS : ∀ b off c,a = some ⟨b,off,c⟩ → ¬ S b) : AtDa w' a n xs:=by
 refine ⟨h.1,h.2.imp id ?_⟩
 rintro ⟨b,off,ha,hc⟩
 refine ⟨b,off,ha,fun j x hj => ?_⟩
 have:=hc j x hj
 exact ⟨hk.cell this.1 (hS _ _ _ ha),hk.cell this.2 (hS _ _ _ ha)⟩
theorem new_cellsDa (w : World) (y : (Int × (Option Addr × Nat × Nat))) : ∀ j u,(ocDa y)[j]? = some u → (w.alloc (.cells #[.int .i64 y.1,.slice y.2.1 y.2.2.1 y.2.2.2] 51)).cell? ((⟨w.heap.size,0,none⟩ : Addr).add j) = some u:=by
 intro j u hj
 have hlt:=lt_of_get hj
 have hl : (ocDa y).length = 2:=rfl
 rw [hl] at hlt
 have hadd : (⟨w.heap.size,0,none⟩ : Addr).add j = ⟨w.heap.size,j,none⟩:=by unfold Addr.add; split <;> simp_all
 rw [hadd]
 have hb:=(MapKept.heap_alloc w (.cells #[.int .i64 y.1,.slice y.2.1 y.2.2.1 y.2.2.2] 51)).1
 simp only [World.cell?,hb]
 simpa [ocDa] using hj
theorem one_cellsDa (y : (Int × (Option Addr × Nat × Nat))) : ∀ u ∈ ocDa y,u.oneCell' = true:=by
 intro u hu
 simp [ocDa] at hu
 rcases hu with rfl | rfl <;> rfl
def EachDa (R g : Nat) (w : World) (K : Nat) (cs : Array Value) (bs : List Int) (n : Nat) (xs : List (Int × (Option Addr × Nat × Nat) × List Int)) (enc : (Int × (Option Addr × Nat × Nat) × List Int) → List Int) (Ok : (Int × (Option Addr × Nat × Nat) × List Int) → (Int × (Option Addr × Nat × Nat)) → Prop) (j : Nat) (x : (Int × (Option Addr × Nat × Nat) × List Int)) : Prop :=
 ∀ (ys : List (Int × (Option Addr × Nat × Nat))) (W : World) (g1 cap1 : Nat) (aa : Option Addr) (ac : Nat),ys.length = j → (∀ (i : Nat) y,ys[i]? = some y → ∃ x',xs[i]? = some x' ∧ Ok x' y) → Stp R g g1 w W → Wr W R g1 cap1 (bs ++ uvar n ++ (xs.take j).flatMap enc) →
  W.ownsRow 0 51 2 (.slice aa j ac) j (ys.flatMap ocDa) → (∀ b,aa = some b → w.heap.size ≤ b.block ∧ b.block ≠ g1) →
  Calls Tryz.prog K (#[ivDa x,.slice aa j ac] ++ cs) W (fun e w' => ∃ y,e = .returned (ovDa y) ∧ Ok x y ∧ ∃ g' cap',Wr w' R g' cap' (bs ++ uvar n ++ (xs.take j).flatMap enc ++ enc x) ∧ Stp R g1 g' W w')
def EachNoDa (R g : Nat) (w : World) (K : Nat) (cs : Array Value) (bs : List Int) (n : Nat) (xs : List (Int × (Option Addr × Nat × Nat) × List Int)) (enc : (Int × (Option Addr × Nat × Nat) × List Int) → List Int) (Ok : (Int × (Option Addr × Nat × Nat) × List Int) → (Int × (Option Addr × Nat × Nat)) → Prop) (j : Nat) (x : (Int × (Option Addr × Nat × Nat) × List Int)) (er : Int) : Prop :=
 ∀ (ys : List (Int × (Option Addr × Nat × Nat))) (W : World) (g1 cap1 : Nat) (aa : Option Addr) (ac : Nat),ys.length = j → (∀ (i : Nat) y,ys[i]? = some y → ∃ x',xs[i]? = some x' ∧ Ok x' y) → Stp R g g1 w W → Wr W R g1 cap1 (bs ++ uvar n ++ (xs.take j).flatMap enc) →
  W.ownsRow 0 51 2 (.slice aa j ac) j (ys.flatMap ocDa) → (∀ b,aa = some b → w.heap.size ≤ b.block ∧ b.block ≠ g1) →
  Calls Tryz.prog K (#[ivDa x,.slice aa j ac] ++ cs) W (Throws R g1 er W)
theorem list144_yes (R g cap : Nat) (bs : List Int) (ha : Option Addr) (n hc : Nat) (most : Int) (K : Nat) (cs : Array Value) (w : World) (xs : List (Int × (Option Addr × Nat × Nat) × List Int)) (enc : (Int × (Option Addr × Nat × Nat) × List Int) → List Int) (Ok : (Int × (Option Addr × Nat × Nat) × List Int) → (Int × (Option Addr × Nat × Nat)) → Prop) (M : Nat)
  (h : Wr w R g cap bs) (hn : n ≤ 100000) (hm : (n : Int) ≤ most) (hmem : AtDa w ha n xs) (hne : ∀ b off c,ha = some ⟨b,off,c⟩ → b ≠ R ∧ b ≠ g)
  (hK : ∀ args w,(callFunc K args).run Tryz.prog w = .ok (.enter K args) w) (hlen : ∀ (j : Nat) x,xs[j]? = some x → (enc x).length ≤ M) (hM : M ≤ 1000000) (hb : bs.length + 200000000000 ≤ 1099511627776)
  (heach : ∀ (j : Nat) x,xs[j]? = some x → EachDa R g w K cs bs n xs enc Ok j x) :
  Calls Tryz.prog 112 #[cW R,.slice ha n hc,.int .i64 most,.func (.func K) #[] cs] w fun e w' => ∃ (aa : Option Addr) (ac : Nat) (ys : List (Int × (Option Addr × Nat × Nat))),e = .returned (.slice aa n ac) ∧ ys.length = n ∧ (∀ (i : Nat) y,ys[i]? = some y → ∃ x,xs[i]? = some x ∧ Ok x y) ∧
   w'.ownsRow 0 51 2 (.slice aa n ac) n (ys.flatMap ocDa) ∧ ∃ g' cap',(∀ b,aa = some b → w.heap.size ≤ b.block ∧ b.block ≠ g') ∧ Wr w' R g' cap' (bs ++ uvar n ++ xs.flatMap enc) ∧ Stp R g g' w w':=by
 have hmc:=meth_count
 have hcc:=enter317
 have HC:=hid (count317_yes R g cap bs n most w h hm (by omega) (by omega))
 have hRl:=h.lt
 have hgl:=h.g_lt
 have hxl:=hmem.1
 have HM:=hid hmem
 have HNE:=hid hne
 have HE:=hid heach
 obtain ⟨i0,hi,hz0,hz1,hz2⟩:=inf81
 clear h hmem heach hne
 go_enter Tryz.func112,Tryz.ntmps112
 go_wp2_with fail
 refine HC.out.mono ?_
 rintro e w2 ⟨rfl,g1,cap1,hw2,hs2⟩
 have W2:=hid hw2
 have S2:=hid hs2
 clear hw2 hs2 HC hmc hcc
 go_wp2_with fail
 go_loopw [9,17] (fun o i wr => ∃ (j : Nat) (ys : List (Int × (Option Addr × Nat × Nat))) (aa : Option Addr) (ac g1 cap1 : Nat),j ≤ n ∧ i = .int .i64 j ∧ o = .slice aa j ac ∧ ys.length = j ∧ (∀ (i : Nat) y,ys[i]? = some y → ∃ x,xs[i]? = some x ∧ Ok x y) ∧
   wr.ownsRow 0 51 2 (.slice aa j ac) j (ys.flatMap ocDa) ∧ (∀ b,aa = some b → w.heap.size ≤ b.block ∧ b.block ≠ g1) ∧ Wr wr R g1 cap1 (bs ++ uvar n ++ (xs.take j).flatMap enc) ∧ Stp R g g1 w wr) (fun _ i _ => n - (intOf i).toNat)
 case atStart => exact ⟨0,[],none,0,g1,cap1,by omega,rfl,rfl,rfl,(fun i y h => by simp at h),World.ownsRow_nil _ _ _ _,(fun b h => by cases h),by simpa using W2.out,S2.out⟩
 case round =>
  obtain ⟨j,ys,aa,ac,g3,cap3,hj,rfl,rfl,hyl,hys,hrow,hab,hwr,hst⟩:=hrel
  have HY:=hid hys
  have HRW:=hid hrow
  have HAB:=hid hab
  have HWR:=hid hwr
  have HST:=hid hst
  clear hys hrow hab hwr hst W2 S2
  by_cases hlt : j < n
  ·obtain ⟨x,hx⟩ : ∃ x,xs[j]? = some x:=⟨_,List.getElem?_eq_getElem (by omega)⟩
   obtain ⟨b,off,rfl,hcell⟩ : ∃ b off,ha = some ⟨b,off,none⟩ ∧ ∀ (j : Nat) x,xs[j]? = some x → wr.cell? ⟨b,off + j * 2,none⟩ = some (.int .i64 x.1) ∧ wr.cell? ⟨b,off + j * 2 + 1,none⟩ = some (.slice x.2.1.1 x.2.1.2.1 x.2.1.2.2):=by
    rcases (HM.out.kept HST.out.k (fun b off c h => by have:=HNE.out b off c h; simp; omega)).2 with h0 | h
    ·omega
    ·exact h
   have hcj:=hcell j x hx
   have hbl:=block_lt_of_cell hcj.1
   clear hcell
   obtain ⟨v0,v1⟩:=hcj
   have BN:=hid (below_new wr (.cells #[.int .i64 x.1,.slice x.2.1.1 x.2.1.2.1 x.2.1.2.2] 51))
   have HC1:=hid (HE.out j x hx ys (wr.alloc (.cells #[.int .i64 x.1,.slice x.2.1.1 x.2.1.2.1 x.2.1.2.2] 51)) g3 cap3 aa ac hyl HY.out (HST.out.trans (Stp.of_below BN.out)) (HWR.out.later BN.out) (ownS_keep HRW.out (fun B hB => BN.out.block B (lt_of_ownS HRW.out hB))) HAB.out)
   go_wp2_with fail
   generalize wr.alloc (.cells #[.int .i64 x.1,.slice x.2.1.1 x.2.1.2.1 x.2.1.2.2] 51) = W at *
   have hszW:=BN.out.size
   refine HC1.out.mono ?_
   rintro e w5 ⟨y,rfl,hok,g4,cap4,hw5,hs5⟩
   have hgr : g3 < wr.heap.size:=HWR.out.g_lt
   have hRr : R < wr.heap.size:=HWR.out.lt
   have row5 : w5.ownsRow 0 51 2 (.slice aa j ac) j (ys.flatMap ocDa):=ownS_keep HRW.out (fun B hB => by
    have h1:=lt_of_ownS HRW.out hB
    have h2 : ∃ a,aa = some a ∧ a.block = B:=own_addr hB
    obtain ⟨a,ha1,ha2⟩:=h2
    have h3:=HAB.out a ha1
    have h4:=HST.out.size
    exact (hs5.block (b:=B) (by omega) (by omega) (by omega)).trans (BN.out.block B h1))
   have gg4:=hw5.g_lt
   have hab5 : ∀ b,aa = some b → b.block ≠ g4 ∧ b.block < w5.heap.size:=fun a ha1 => by
    have h3:=HAB.out a ha1
    have h1 : a.block < wr.heap.size:=lt_of_ownS HRW.out (own_addr' HRW.out ha1)
    exact ⟨hs5.ne (by omega) h3.2,Nat.lt_of_lt_of_le h1 (Nat.le_trans hszW hs5.size)⟩
   have W5:=hid hw5
   have S5:=hid (HST.out.trans ((Stp.of_below BN.out).trans hs5))
   have O5:=hid hok
   have BN5:=hid (below_new w5 (.cells #[.int .i64 y.1,.slice y.2.1 y.2.2.1 y.2.2.2] 51))
   have R6:=hid (ownS_keep (w':=w5.alloc (.cells #[.int .i64 y.1,.slice y.2.1 y.2.2.1 y.2.2.2] 51)) row5 (fun B hB => BN5.out.block B (lt_of_ownS row5 hB)))
   have HAB5:=hid hab5
   have NC:=hid (new_cellsDa w5 y)
   have hz6 : (w5.alloc (.cells #[.int .i64 y.1,.slice y.2.1 y.2.2.1 y.2.2.2] 51)).heap.size = w5.heap.size + 1:=by simp
   clear hw5 hs5 row5 hab5 HC1 hok
   go_wp2_with (at_builtin; (refine app_rows _ rfl (.tmp 28) (.tmp 33) 26 rfl 51 i0 _ 2 32 Tryz.underlying26 hi hz0 hz1 hz2 rfl (by decide) _ j _ rfl R6.out ⟨w5.heap.size,0,none⟩ 1 1 (ocDa y) rfl rfl NC.out (one_cellsDa y) (by omega) (by unfold maxLen; omega) (by omega) ?_; intro B cap7 w7 hrow7 hor7; have R7:=hid hrow7; have OR7:=hid hor7; clear hrow7 hor7))
   generalize w5.alloc (.cells #[.int .i64 y.1,.slice y.2.1 y.2.2.1 y.2.2.2] 51) = W6 at *
   have hBn : w.heap.size ≤ B ∧ B ≠ g4 ∧ Kept (fun k => k = B) W6 w7:=by
    rcases OR7.out with ⟨h1,h2⟩ | ⟨h1,h2⟩
    ·have h1' : aa = some ⟨B,0,none⟩:=(Value.slice.inj h1).1
     exact ⟨(HAB.out _ h1').1,(HAB5.out _ h1').1,h2⟩
    ·have:=S5.out.size
     exact ⟨by omega,by omega,h2.mono (fun k hk => hk.elim)⟩
   have hRw:=S5.out.size
   go_roundw
   ·refine ⟨j + 1,ys ++ [y],some ⟨B,0,none⟩,cap7,g4,cap4,by omega,rfl,rfl,by simp [hyl],?_,?_,?_,?_,?_⟩
    ·intro i y' hi'
     by_cases hij : i < ys.length
     ·rw [List.getElem?_append_left hij] at hi'
      exact HY.out i y' hi'
     ·rw [List.getElem?_append_right (by omega)] at hi'
      have hi0 : i - ys.length = 0:=by
       rcases Nat.eq_zero_or_pos (i - ys.length) with h | h
       ·exact h
       ·rw [List.getElem?_eq_none (by simp; omega)] at hi'; cases hi'
      rw [hi0] at hi'
      simp at hi'
      subst hi'
      obtain rfl : i = j:=by omega
      exact ⟨x,hx,O5.out⟩
    ·have:=R7.out
     simpa [RowS] using this
    ·intro b' hb'
     simp at hb'
     subst hb'
     exact ⟨hBn.1,hBn.2.1⟩
    ·have:=(W5.out.later BN5.out).kept hBn.2.2 (by omega) (Ne.symm hBn.2.1)
     rw [take_flat enc hx]
     simpa [List.append_assoc] using this
    ·exact ⟨(S5.out.k.trans (kept_of BN5.out)).then hBn.2.2 (fun k hk hkB => by have:=hBn.1; omega),S5.out.m⟩
   ·simp [intOf]; omega
  ·obtain rfl : j = n:=by omega
   have hxs : xs.take j = xs:=List.take_of_length_le (by omega)
   go_wp2_with fail
   go_ret
   refine ⟨aa,ac,ys,rfl,hyl,HY.out,HRW.out,g3,cap3,HAB.out,?_,HST.out⟩
   rw [← hxs]
   exact HWR.out
theorem list144_no (R g cap : Nat) (bs : List Int) (ha : Option Addr) (n hc : Nat) (most : Int) (K : Nat) (cs : Array Value) (w : World) (xs : List (Int × (Option Addr × Nat × Nat) × List Int)) (enc : (Int × (Option Addr × Nat × Nat) × List Int) → List Int) (Ok : (Int × (Option Addr × Nat × Nat) × List Int) → (Int × (Option Addr × Nat × Nat)) → Prop) (M : Nat)
  (h : Wr w R g cap bs) (hn : n ≤ 100000) (hm : (n : Int) ≤ most) (hmem : AtDa w ha n xs) (hne : ∀ b off c,ha = some ⟨b,off,c⟩ → b ≠ R ∧ b ≠ g)
  (hK : ∀ args w,(callFunc K args).run Tryz.prog w = .ok (.enter K args) w) (hlen : ∀ (j : Nat) x,xs[j]? = some x → (enc x).length ≤ M) (hM : M ≤ 1000000) (hb : bs.length + 200000000000 ≤ 1099511627776)
  (k : Nat) (xk : (Int × (Option Addr × Nat × Nat) × List Int)) (er : Int) (hk : xs[k]? = some xk) (heach : ∀ (j : Nat) x,xs[j]? = some x → j < k → EachDa R g w K cs bs n xs enc Ok j x) (hno : EachNoDa R g w K cs bs n xs enc Ok k xk er) :
  Calls Tryz.prog 112 #[cW R,.slice ha n hc,.int .i64 most,.func (.func K) #[] cs] w (Throws R g er w):=by
 have hkn:=lt_of_get hk
 have hmc:=meth_count
 have hcc:=enter317
 have HC:=hid (count317_yes R g cap bs n most w h hm (by omega) (by omega))
 have hRl:=h.lt
 have hgl:=h.g_lt
 have hxl:=hmem.1
 have HM:=hid hmem
 have HNE:=hid hne
 have HE:=hid heach
 have HN:=hid hno
 obtain ⟨i0,hi,hz0,hz1,hz2⟩:=inf81
 clear h hmem heach hne hno
 go_enter Tryz.func112,Tryz.ntmps112
 go_wp2_with fail
 refine HC.out.mono ?_
 rintro e w2 ⟨rfl,g1,cap1,hw2,hs2⟩
 have W2:=hid hw2
 have S2:=hid hs2
 clear hw2 hs2 HC hmc hcc
 go_wp2_with fail
 go_loopw [9,17] (fun o i wr => ∃ (j : Nat) (ys : List (Int × (Option Addr × Nat × Nat))) (aa : Option Addr) (ac g1 cap1 : Nat),j ≤ k ∧ i = .int .i64 j ∧ o = .slice aa j ac ∧ ys.length = j ∧ (∀ (i : Nat) y,ys[i]? = some y → ∃ x,xs[i]? = some x ∧ Ok x y) ∧
   wr.ownsRow 0 51 2 (.slice aa j ac) j (ys.flatMap ocDa) ∧ (∀ b,aa = some b → w.heap.size ≤ b.block ∧ b.block ≠ g1) ∧ Wr wr R g1 cap1 (bs ++ uvar n ++ (xs.take j).flatMap enc) ∧ Stp R g g1 w wr) (fun _ i _ => n - (intOf i).toNat)
 case atStart => exact ⟨0,[],none,0,g1,cap1,by omega,rfl,rfl,rfl,(fun i y h => by simp at h),World.ownsRow_nil _ _ _ _,(fun b h => by cases h),by simpa using W2.out,S2.out⟩
 case round =>
  obtain ⟨j,ys,aa,ac,g3,cap3,hj,rfl,rfl,hyl,hys,hrow,hab,hwr,hst⟩:=hrel
  have HY:=hid hys
  have HRW:=hid hrow
  have HAB:=hid hab
  have HWR:=hid hwr
  have HST:=hid hst
  clear hys hrow hab hwr hst W2 S2
  have hlt : j < n:=by omega
  ·obtain ⟨x,hx⟩ : ∃ x,xs[j]? = some x:=⟨_,List.getElem?_eq_getElem (by omega)⟩
   obtain ⟨b,off,rfl,hcell⟩ : ∃ b off,ha = some ⟨b,off,none⟩ ∧ ∀ (j : Nat) x,xs[j]? = some x → wr.cell? ⟨b,off + j * 2,none⟩ = some (.int .i64 x.1) ∧ wr.cell? ⟨b,off + j * 2 + 1,none⟩ = some (.slice x.2.1.1 x.2.1.2.1 x.2.1.2.2):=by
    rcases (HM.out.kept HST.out.k (fun b off c h => by have:=HNE.out b off c h; simp; omega)).2 with h0 | h
    ·omega
    ·exact h
   have hcj:=hcell j x hx
   have hbl:=block_lt_of_cell hcj.1
   clear hcell
   obtain ⟨v0,v1⟩:=hcj
   have BN:=hid (below_new wr (.cells #[.int .i64 x.1,.slice x.2.1.1 x.2.1.2.1 x.2.1.2.2] 51))
   by_cases hjk : j < k
   ·skip
    have HC1:=hid (HE.out j x hx hjk ys (wr.alloc (.cells #[.int .i64 x.1,.slice x.2.1.1 x.2.1.2.1 x.2.1.2.2] 51)) g3 cap3 aa ac hyl HY.out (HST.out.trans (Stp.of_below BN.out)) (HWR.out.later BN.out) (ownS_keep HRW.out (fun B hB => BN.out.block B (lt_of_ownS HRW.out hB))) HAB.out)
    go_wp2_with fail
    generalize wr.alloc (.cells #[.int .i64 x.1,.slice x.2.1.1 x.2.1.2.1 x.2.1.2.2] 51) = W at *
    have hszW:=BN.out.size
    refine HC1.out.mono ?_
    rintro e w5 ⟨y,rfl,hok,g4,cap4,hw5,hs5⟩
    have hgr : g3 < wr.heap.size:=HWR.out.g_lt
    have hRr : R < wr.heap.size:=HWR.out.lt
    have row5 : w5.ownsRow 0 51 2 (.slice aa j ac) j (ys.flatMap ocDa):=ownS_keep HRW.out (fun B hB => by
     have h1:=lt_of_ownS HRW.out hB
     have h2 : ∃ a,aa = some a ∧ a.block = B:=own_addr hB
     obtain ⟨a,ha1,ha2⟩:=h2
     have h3:=HAB.out a ha1
     have h4:=HST.out.size
     exact (hs5.block (b:=B) (by omega) (by omega) (by omega)).trans (BN.out.block B h1))
    have gg4:=hw5.g_lt
    have hab5 : ∀ b,aa = some b → b.block ≠ g4 ∧ b.block < w5.heap.size:=fun a ha1 => by
     have h3:=HAB.out a ha1
     have h1 : a.block < wr.heap.size:=lt_of_ownS HRW.out (own_addr' HRW.out ha1)
     exact ⟨hs5.ne (by omega) h3.2,Nat.lt_of_lt_of_le h1 (Nat.le_trans hszW hs5.size)⟩
    have W5:=hid hw5
    have S5:=hid (HST.out.trans ((Stp.of_below BN.out).trans hs5))
    have O5:=hid hok
    have BN5:=hid (below_new w5 (.cells #[.int .i64 y.1,.slice y.2.1 y.2.2.1 y.2.2.2] 51))
    have R6:=hid (ownS_keep (w':=w5.alloc (.cells #[.int .i64 y.1,.slice y.2.1 y.2.2.1 y.2.2.2] 51)) row5 (fun B hB => BN5.out.block B (lt_of_ownS row5 hB)))
    have HAB5:=hid hab5
    have NC:=hid (new_cellsDa w5 y)
    have hz6 : (w5.alloc (.cells #[.int .i64 y.1,.slice y.2.1 y.2.2.1 y.2.2.2] 51)).heap.size = w5.heap.size + 1:=by simp
    clear hw5 hs5 row5 hab5 HC1 hok
    go_wp2_with (at_builtin; (refine app_rows _ rfl (.tmp 28) (.tmp 33) 26 rfl 51 i0 _ 2 32 Tryz.underlying26 hi hz0 hz1 hz2 rfl (by decide) _ j _ rfl R6.out ⟨w5.heap.size,0,none⟩ 1 1 (ocDa y) rfl rfl NC.out (one_cellsDa y) (by omega) (by unfold maxLen; omega) (by omega) ?_; intro B cap7 w7 hrow7 hor7; have R7:=hid hrow7; have OR7:=hid hor7; clear hrow7 hor7))
    generalize w5.alloc (.cells #[.int .i64 y.1,.slice y.2.1 y.2.2.1 y.2.2.2] 51) = W6 at *
    have hBn : w.heap.size ≤ B ∧ B ≠ g4 ∧ Kept (fun k => k = B) W6 w7:=by
     rcases OR7.out with ⟨h1,h2⟩ | ⟨h1,h2⟩
     ·have h1' : aa = some ⟨B,0,none⟩:=(Value.slice.inj h1).1
      exact ⟨(HAB.out _ h1').1,(HAB5.out _ h1').1,h2⟩
     ·have:=S5.out.size
      exact ⟨by omega,by omega,h2.mono (fun k hk => hk.elim)⟩
    have hRw:=S5.out.size
    go_roundw
    ·refine ⟨j + 1,ys ++ [y],some ⟨B,0,none⟩,cap7,g4,cap4,by omega,rfl,rfl,by simp [hyl],?_,?_,?_,?_,?_⟩
     ·intro i y' hi'
      by_cases hij : i < ys.length
      ·rw [List.getElem?_append_left hij] at hi'
       exact HY.out i y' hi'
      ·rw [List.getElem?_append_right (by omega)] at hi'
       have hi0 : i - ys.length = 0:=by
        rcases Nat.eq_zero_or_pos (i - ys.length) with h | h
        ·exact h
        ·rw [List.getElem?_eq_none (by simp; omega)] at hi'; cases hi'
       rw [hi0] at hi'
       simp at hi'
       subst hi'
       obtain rfl : i = j:=by omega
       exact ⟨x,hx,O5.out⟩
     ·have:=R7.out
      simpa [RowS] using this
     ·intro b' hb'
      simp at hb'
      subst hb'
      exact ⟨hBn.1,hBn.2.1⟩
     ·have:=(W5.out.later BN5.out).kept hBn.2.2 (by omega) (Ne.symm hBn.2.1)
      rw [take_flat enc hx]
      simpa [List.append_assoc] using this
     ·exact ⟨(S5.out.k.trans (kept_of BN5.out)).then hBn.2.2 (fun k hk hkB => by have:=hBn.1; omega),S5.out.m⟩
    ·simp [intOf]; omega
   ·obtain rfl : j = k:=by omega
    obtain rfl : x = xk:=by rw [hx] at hk; simpa using hk
    have HC1:=hid (HN.out ys (wr.alloc (.cells #[.int .i64 x.1,.slice x.2.1.1 x.2.1.2.1 x.2.1.2.2] 51)) g3 cap3 aa ac hyl HY.out (HST.out.trans (Stp.of_below BN.out)) (HWR.out.later BN.out) (ownS_keep HRW.out (fun B hB => BN.out.block B (lt_of_ownS HRW.out hB))) HAB.out)
    go_wp2_with fail
    refine HC1.out.mono ?_
    rintro e w5 ⟨⟨p,rfl⟩,hk5⟩
    exact ⟨rfl,⟨p,rfl⟩,(HST.out.trans (Stp.of_below BN.out)).throw hk5⟩
theorem list144_many (R g cap : Nat) (bs : List Int) (ha : Option Addr) (n hc : Nat) (most : Int) (f : Value) (w : World) (h : Wr w R g cap bs) (hm : most < (n : Int)) :
  Calls Tryz.prog 112 #[cW R,.slice ha n hc,.int .i64 most,f] w (Throws R g 20 w):=by
 have hmc:=meth_count
 have hcc:=enter317
 have HC:=hid (count317_no R g cap bs n most w h hm)
 clear h
 go_enter Tryz.func112,Tryz.ntmps112
 go_wp2_with fail
 refine HC.out.mono ?_
 rintro e w2 ⟨⟨p,rfl⟩,hk⟩
 exact ⟨rfl,⟨p,rfl⟩,hk⟩
abbrev SL:=Option Addr × Nat × Nat
abbrev DaM:=Int × SL × List Int
def okDa (x : DaM) (y : Int × SL) : Prop:=y.1 = x.1 ∧ y.2.2.1 = x.2.2.length
def touchM (ys : List (Int × SL)) (v : Int) : Bool:=match ys.getLast? with | none => false | some y => decide (v ≤ y.1 + (y.2.2.1 : Int))
theorem behind197 (B an ac : Nat) (pl : Int) (da : Option Addr) (dn dc : Nat) (w : World) (h0 : 0 < an) (h1 : an ≤ 100000) (hp0 : 0 ≤ pl) (hp : pl ≤ 1099511627776) (hd : dn ≤ 1099511627776) (hc0 : w.cell? ⟨B,(an - 1) * 2,none⟩ = some (.int .i64 pl)) (hc1 : w.cell? ⟨B,(an - 1) * 2 + 1,none⟩ = some (.slice da dn dc)) :
  Calls Tryz.prog 144 #[.slice (some ⟨B,0,none⟩) an ac] w fun e w' => e = .returned (.int .i64 (pl + dn)) ∧ Below w.heap.size w w':=by
 have BN:=hid (below_new w (.cells #[.int .i64 pl,.slice da dn dc] 51))
 have hw : wrap64 (pl + dn) = pl + dn:=by unfold wrap64; omega
 go_enter Tryz.func144,Tryz.ntmps144
 go_wp2_with fail
 go_ret
 exact ⟨rfl,BN.out⟩
section
variable (v p room : Int) (A C : Nat) (aa : Option Addr) (an ac : Nat) (ys : List (Int × SL)) (w : World)
theorem last_da (hl : ys.length = an) (hrow : w.ownsRow 0 51 2 (.slice aa an ac) an (ys.flatMap ocDa)) (h0 : 0 < an) : ∃ B y,aa = some ⟨B,0,none⟩ ∧ ys.getLast? = some y ∧ w.cell? ⟨B,(an - 1) * 2,none⟩ = some (.int .i64 y.1) ∧ w.cell? ⟨B,(an - 1) * 2 + 1,none⟩ = some (.slice y.2.1 y.2.2.1 y.2.2.2):=by
 obtain ⟨y,hy⟩ : ∃ y,ys[an - 1]? = some y:=⟨_,List.getElem?_eq_getElem (by omega)⟩
 obtain ⟨B,hB,hc⟩:=row_cell (oc:=ocDa) (t:=0) (u:=.int .i64 y.1) (fun _ => rfl) hrow hy rfl
 obtain ⟨B',hB',hc'⟩:=row_cell (oc:=ocDa) (t:=1) (u:=.slice y.2.1 y.2.2.1 y.2.2.2) (fun _ => rfl) hrow hy rfl
 rw [hB] at hB'
 simp at hB'
 subst hB'
 refine ⟨B,y,hB,?_,hc,hc'⟩
 rw [List.getLast?_eq_getElem?,hl]
 exact hy
theorem ask196_17 (hr : 0 ≤ room) (hr1 : room ≤ 1099511627776) (hv : room < v) (hA : w.cell? ⟨A,0,none⟩ = some (.int .i64 room)) :
  Calls Tryz.prog 143 #[.int .u64 v,.int .i64 p,.pointer (some ⟨A,0,none⟩),.pointer (some ⟨C,0,none⟩)] w (Bars 17 w):=by
 have hw:=wrap_in room hr (by omega)
 have d : decide (v ≤ room) = false:=by simp; omega
 go_enter Tryz.func143,Tryz.ntmps143
 go_wp2_with fail
 refine (bars_of (by first | rfl | exact d)).mono ?_
 rintro e w1 ⟨rfl,rfl⟩
 exact ⟨rfl,⟨_,rfl⟩,Below.refl _ _⟩
theorem ask196_x (hr : 0 ≤ room) (hr1 : room ≤ 1099511627776) (hv0 : 0 ≤ v) (hv : v ≤ room) (hl : ys.length = an) (han : an ≤ 100000) (hys : ∀ y ∈ ys,0 ≤ y.1 ∧ y.1 ≤ 1099511627776 ∧ y.2.2.1 ≤ 1099511627776) (hrow : w.ownsRow 0 51 2 (.slice aa an ac) an (ys.flatMap ocDa)) (ht : touchM ys v = false)
  (hA : w.cell? ⟨A,0,none⟩ = some (.int .i64 room)) (hC : w.cell? ⟨C,0,none⟩ = some (.slice aa an ac)) :
  Calls Tryz.prog 143 #[.int .u64 v,.int .i64 p,.pointer (some ⟨A,0,none⟩),.pointer (some ⟨C,0,none⟩)] w (Asks w):=by
 have hw:=wrap_in room hr (by omega)
 have hi:=i64_in v (by omega) (by omega)
 have d : decide (v ≤ room) = true:=by simp [hv]
 by_cases h0 : an = 0
 ·subst h0
  go_enter Tryz.func143,Tryz.ntmps143
  go_wp2_with fail
  refine (asks_of (by first | rfl | exact d)).mono ?_
  rintro e w1 ⟨rfl,rfl⟩
  go_wp2_with fail
  refine (asks_of rfl).mono ?_
  rintro e w1 ⟨rfl,rfl⟩
  go_wp2_with fail
  go_end0
  exact ⟨rfl,Below.refl _ _⟩
 ·obtain ⟨B,y,rfl,hy,hc0,hc1⟩:=last_da aa an ac ys w hl hrow (by omega)
  have hyr:=hys y (List.mem_of_getLast? hy)
  have HBH:=hid (fun W (h0' : W.cell? ⟨B,(an - 1) * 2,none⟩ = some (.int .i64 y.1)) h1' => behind197 B an ac y.1 y.2.1 y.2.2.1 y.2.2.2 W (by omega) han hyr.1 hyr.2.1 hyr.2.2 h0' h1')
  have hlast : y.1 + (y.2.2.1 : Int) < v:=by
   unfold touchM at ht
   rw [hy] at ht
   simpa using ht
  have hz : ((an : Int) == 0) = false:=by simp; omega
  go_enter Tryz.func143,Tryz.ntmps143
  go_wp2_with fail
  refine (asks_of (by first | rfl | exact d)).mono ?_
  rintro e w1 ⟨rfl,rfl⟩
  go_wp2_with fail
  refine (HBH.out _ hc0 hc1).mono ?_
  rintro e w2 ⟨rfl,hb2⟩
  have B2:=hid hb2
  have dd : decide (y.1 + (y.2.2.1 : Int) < v) = true:=by simp; omega
  clear hb2 HBH
  go_wp2_with fail
  refine (asks_of (by first | rfl | exact dd)).mono ?_
  rintro e w1 ⟨rfl,rfl⟩
  go_wp2_with fail
  go_end0
  exact ⟨rfl,B2.out⟩
theorem ask196_18 (hr : 0 ≤ room) (hr1 : room ≤ 1099511627776) (hv0 : 0 ≤ v) (hv : v ≤ room) (hl : ys.length = an) (han : an ≤ 100000) (hys : ∀ y ∈ ys,0 ≤ y.1 ∧ y.1 ≤ 1099511627776 ∧ y.2.2.1 ≤ 1099511627776) (hrow : w.ownsRow 0 51 2 (.slice aa an ac) an (ys.flatMap ocDa)) (ht : touchM ys v = true)
  (hA : w.cell? ⟨A,0,none⟩ = some (.int .i64 room)) (hC : w.cell? ⟨C,0,none⟩ = some (.slice aa an ac)) :
  Calls Tryz.prog 143 #[.int .u64 v,.int .i64 p,.pointer (some ⟨A,0,none⟩),.pointer (some ⟨C,0,none⟩)] w (Bars 18 w):=by
 have hw:=wrap_in room hr (by omega)
 have hi:=i64_in v (by omega) (by omega)
 have d : decide (v ≤ room) = true:=by simp [hv]
 have h0 : 0 < an:=by
  rcases Nat.eq_zero_or_pos an with h | h
  ·have : ys = []:=List.eq_nil_of_length_eq_zero (by omega)
   subst this
   simp [touchM] at ht
  ·exact h
 obtain ⟨B,y,rfl,hy,hc0,hc1⟩:=last_da aa an ac ys w hl hrow (by omega)
 have hyr:=hys y (List.mem_of_getLast? hy)
 have HBH:=hid (fun W (h0' : W.cell? ⟨B,(an - 1) * 2,none⟩ = some (.int .i64 y.1)) h1' => behind197 B an ac y.1 y.2.1 y.2.2.1 y.2.2.2 W (by omega) han hyr.1 hyr.2.1 hyr.2.2 h0' h1')
 have hlast : v ≤ y.1 + (y.2.2.1 : Int):=by
  unfold touchM at ht
  rw [hy] at ht
  simpa using ht
 have hz : ((an : Int) == 0) = false:=by simp; omega
 go_enter Tryz.func143,Tryz.ntmps143
 go_wp2_with fail
 refine (asks_of (by first | rfl | exact d)).mono ?_
 rintro e w1 ⟨rfl,rfl⟩
 go_wp2_with fail
 refine (HBH.out _ hc0 hc1).mono ?_
 rintro e w2 ⟨rfl,hb2⟩
 have B2:=hid hb2
 have dd : decide (y.1 + (y.2.2.1 : Int) < v) = false:=by simp; omega
 clear hb2 HBH
 go_wp2_with fail
 refine (bars_of (by first | rfl | exact dd)).mono ?_
 rintro e w1 ⟨rfl,rfl⟩
 exact ⟨rfl,⟨_,rfl⟩,B2.out⟩
end
theorem convB (w : World) (a : Option Addr) (n c : Nat) (zs : List Int) (h : Seg w a n c zs) : (convert 49 9 (.slice a n c)).run Tryz.prog w = .ok (.string (strOfNums zs)) w:=by
 rcases h.2.2.2.2 with h0 | ⟨b,off,rfl,hc⟩
 ·subst h0
  have : zs = []:=List.eq_nil_of_length_eq_zero h.1
  subst this
  cases a <;> rfl
 ·exact run_convert_bytes_arg w 49 5 Tryz.underlying49 Tryz.underlying5 b off n c zs h.1 hc 9 Tryz.underlying9
theorem strOf_size (zs : List Int) : (strOfNums zs).size = zs.length:=by
 show (strOfNums zs).data.size = _
 simp [strOfNums]
theorem strOf_bytes (zs : List Int) (h : ∀ z ∈ zs,0 ≤ z ∧ z ≤ 255) : strBytes (strOfNums zs) = zs:=by
 unfold strBytes
 rw [strOfNums_data,List.map_map]
 conv => rhs; rw [← List.map_id zs]
 apply List.map_congr_left
 intro z hz
 have:=h z hz
 simp only [Function.comp,id]
 have e : (UInt8.ofNat z.toNat).toNat = z.toNat:=by
  simp
  omega
 rw [e]; omega
theorem ask198_yes (s : ByteArray) (p : Int) (w : World) (h : s.size ≠ 0) : Calls Tryz.prog 145 #[.string s,.int .i64 p] w (Asks w):=by
 have he : (!s.toList.isEmpty) = true:=by
  rw [ba_toList]
  have : s.data.toList ≠ []:=by intro hh; apply h; rw [ba_size,hh]; rfl
  cases hl : s.data.toList with
  | nil => exact absurd hl this
  | cons a b => rfl
 go_enter Tryz.func145,Tryz.ntmps145
 go_wp2_with fail
 refine (asks_of (by first | rfl | exact he)).mono ?_
 rintro e w1 ⟨rfl,rfl⟩
 go_wp2_with fail
 go_end0
 exact ⟨rfl,Below.refl _ _⟩
theorem ask198_no (s : ByteArray) (p : Int) (w : World) (h : s.size = 0) : Calls Tryz.prog 145 #[.string s,.int .i64 p] w (Bars 17 w):=by
 have he : (!s.toList.isEmpty) = false:=by
  rw [ba_toList]
  have : s.data.toList = []:=List.eq_nil_of_length_eq_zero (by rw [← ba_size]; exact h)
  rw [this]; rfl
 go_enter Tryz.func145,Tryz.ntmps145
 go_wp2_with fail
 refine (bars_of (by first | rfl | exact he)).mono ?_
 rintro e w1 ⟨rfl,rfl⟩
 exact ⟨rfl,⟨_,rfl⟩,Below.refl _ _⟩
end Go.Proofs.YtepcmfegggdjfaaGreatDoor
