/-
  Texts Lex.
-/
import Derived.Test.YtepcmfegggdjfaaGreatDoorQ05
set_option linter.unusedVariables false
set_option maxRecDepth 100000
set_option maxHeartbeats 16000000
namespace Go.Proofs.YtepcmfegggdjfaaGreatDoor
open Go.RowKit
theorem inf83 : ∃ i,Tryz.prog.info? 64 = some i ∧ i.zero = some (.agg #[.string ⟨#[]⟩,.int .i64 0]) ∧ i.size = 2 ∧ i.bytes = 24:=by
 have h : (Tryz.prog.info? 64).map (fun i => (i.zero,i.size,i.bytes)) = some (some (.agg #[.string ⟨#[]⟩,.int .i64 0]),2,24):=by kernel_rfl
 cases hi : Tryz.prog.info? 64 with
 | none => rw [hi] at h; cases h
 | some i => rw [hi] at h; simp at h; exact ⟨i,rfl,h.1,h.2.1,h.2.2⟩
def ocEx (y : Ex) : List Value:=[.string y.1,.int .i64 y.2]
abbrev ivEx (x : Ex) : Value:=.agg #[.string x.1,.int .i64 x.2]
abbrev ovEx (y : Ex) : Value:=.agg #[.string y.1,.int .i64 y.2]
def AtEx (w : World) (a : Option Addr) (n : Nat) (xs : List Ex) : Prop :=
 xs.length = n ∧ (n = 0 ∨ ∃ b off,a = some ⟨b,off,none⟩ ∧ ∀ (j : Nat) x,xs[j]? = some x → w.cell? ⟨b,off + j * 2,none⟩ = some (.string x.1) ∧ w.cell? ⟨b,off + j * 2 + 1,none⟩ = some (.int .i64 x.2))
theorem AtEx.kept {S : Nat → Prop} {w w' : World} {a : Option Addr} {n : Nat} {xs : List Ex} (h : AtEx w a n xs) (hk : Kept S w w') (hS : ∀ b off c,a = some ⟨b,off,c⟩ → ¬ S b) : AtEx w' a n xs:=by
 refine ⟨h.1,h.2.imp id ?_⟩
 rintro ⟨b,off,ha,hc⟩
 refine ⟨b,off,ha,fun j x hj => ?_⟩
 have:=hc j x hj
 exact ⟨hk.cell this.1 (hS _ _ _ ha),hk.cell this.2 (hS _ _ _ ha)⟩
theorem new_cellsEx (w : World) (y : Ex) : ∀ j u,(ocEx y)[j]? = some u → (w.alloc (.cells #[.string y.1,.int .i64 y.2] 64)).cell? ((⟨w.heap.size,0,none⟩ : Addr).add j) = some u:=by
 intro j u hj
 have hlt:=lt_of_get hj
 have hl : (ocEx y).length = 2:=rfl
 rw [hl] at hlt
 have hadd : (⟨w.heap.size,0,none⟩ : Addr).add j = ⟨w.heap.size,j,none⟩:=by unfold Addr.add; split <;> simp_all
 rw [hadd]
 have hb:=(MapKept.heap_alloc w (.cells #[.string y.1,.int .i64 y.2] 64)).1
 simp only [World.cell?,hb]
 simpa [ocEx] using hj
theorem one_cellsEx (y : Ex) : ∀ u ∈ ocEx y,u.oneCell' = true:=by
 intro u hu
 simp [ocEx] at hu
 rcases hu with rfl | rfl <;> rfl
def EachEx (R g : Nat) (w : World) (K : Nat) (cs : Array Value) (bs : List Int) (n : Nat) (xs : List Ex) (enc : Ex → List Int) (Ok : Ex → Ex → Prop) (j : Nat) (x : Ex) : Prop :=
 ∀ (ys : List Ex) (W : World) (g1 cap1 : Nat) (aa : Option Addr) (ac : Nat),ys.length = j → (∀ (i : Nat) y,ys[i]? = some y → ∃ x',xs[i]? = some x' ∧ Ok x' y) → Stp R g g1 w W → Wr W R g1 cap1 (bs ++ uvar n ++ (xs.take j).flatMap enc) →
  W.ownsRow 0 64 2 (.slice aa j ac) j (ys.flatMap ocEx) → (∀ b,aa = some b → w.heap.size ≤ b.block ∧ b.block ≠ g1) →
  Calls Tryz.prog K (#[ivEx x,.slice aa j ac] ++ cs) W (fun e w' => ∃ y,e = .returned (ovEx y) ∧ Ok x y ∧ ∃ g' cap',Wr w' R g' cap' (bs ++ uvar n ++ (xs.take j).flatMap enc ++ enc x) ∧ Stp R g1 g' W w')
def EachNoEx (R g : Nat) (w : World) (K : Nat) (cs : Array Value) (bs : List Int) (n : Nat) (xs : List Ex) (enc : Ex → List Int) (Ok : Ex → Ex → Prop) (j : Nat) (x : Ex) (er : Int) : Prop :=
 ∀ (ys : List Ex) (W : World) (g1 cap1 : Nat) (aa : Option Addr) (ac : Nat),ys.length = j → (∀ (i : Nat) y,ys[i]? = some y → ∃ x',xs[i]? = some x' ∧ Ok x' y) → Stp R g g1 w W → Wr W R g1 cap1 (bs ++ uvar n ++ (xs.take j).flatMap enc) →
  W.ownsRow 0 64 2 (.slice aa j ac) j (ys.flatMap ocEx) → (∀ b,aa = some b → w.heap.size ≤ b.block ∧ b.block ≠ g1) →
  Calls Tryz.prog K (#[ivEx x,.slice aa j ac] ++ cs) W (Throws R g1 er W)
theorem list147_yes (R g cap : Nat) (bs : List Int) (ha : Option Addr) (n hc : Nat) (most : Int) (K : Nat) (cs : Array Value) (w : World) (xs : List Ex) (enc : Ex → List Int) (Ok : Ex → Ex → Prop) (M : Nat)
  (h : Wr w R g cap bs) (hn : n ≤ 100000) (hm : (n : Int) ≤ most) (hmem : AtEx w ha n xs) (hne : ∀ b off c,ha = some ⟨b,off,c⟩ → b ≠ R ∧ b ≠ g)
  (hK : ∀ args w,(callFunc K args).run Tryz.prog w = .ok (.enter K args) w) (hlen : ∀ (j : Nat) x,xs[j]? = some x → (enc x).length ≤ M) (hM : M ≤ 1000000) (hb : bs.length + 200000000000 ≤ 1099511627776)
  (heach : ∀ (j : Nat) x,xs[j]? = some x → EachEx R g w K cs bs n xs enc Ok j x) :
  Calls Tryz.prog 115 #[cW R,.slice ha n hc,.int .i64 most,.func (.func K) #[] cs] w fun e w' => ∃ (aa : Option Addr) (ac : Nat) (ys : List Ex),e = .returned (.slice aa n ac) ∧ ys.length = n ∧ (∀ (i : Nat) y,ys[i]? = some y → ∃ x,xs[i]? = some x ∧ Ok x y) ∧
   w'.ownsRow 0 64 2 (.slice aa n ac) n (ys.flatMap ocEx) ∧ ∃ g' cap',(∀ b,aa = some b → w.heap.size ≤ b.block ∧ b.block ≠ g') ∧ Wr w' R g' cap' (bs ++ uvar n ++ xs.flatMap enc) ∧ Stp R g g' w w':=by
 have hmc:=meth_count
 have hcc:=enter317
 have HC:=hid (count317_yes R g cap bs n most w h hm (by omega) (by omega))
 have hRl:=h.lt
 have hgl:=h.g_lt
 have hxl:=hmem.1
 have HM:=hid hmem
 have HNE:=hid hne
 have HE:=hid heach
 obtain ⟨i0,hi,hz0,hz1,hz2⟩:=inf83
 clear h hmem heach hne
 go_enter Tryz.func115,Tryz.ntmps115
 go_wp2_with fail
 refine HC.out.mono ?_
 rintro e w2 ⟨rfl,g1,cap1,hw2,hs2⟩
 have W2:=hid hw2
 have S2:=hid hs2
 clear hw2 hs2 HC hmc hcc
 go_wp2_with fail
 go_loopw [9,17] (fun o i wr => ∃ (j : Nat) (ys : List Ex) (aa : Option Addr) (ac g1 cap1 : Nat),j ≤ n ∧ i = .int .i64 j ∧ o = .slice aa j ac ∧ ys.length = j ∧ (∀ (i : Nat) y,ys[i]? = some y → ∃ x,xs[i]? = some x ∧ Ok x y) ∧
   wr.ownsRow 0 64 2 (.slice aa j ac) j (ys.flatMap ocEx) ∧ (∀ b,aa = some b → w.heap.size ≤ b.block ∧ b.block ≠ g1) ∧ Wr wr R g1 cap1 (bs ++ uvar n ++ (xs.take j).flatMap enc) ∧ Stp R g g1 w wr) (fun _ i _ => n - (intOf i).toNat)
 case atStart => exact ⟨0,[],none,0,g1,cap1,by omega,rfl,rfl,rfl,(fun i y h => by simp at h),World.ownsRow_nil _ _ _ _,(fun b h => by cases h),by simpa using W2.out,S2.out⟩
 case round =>
  obtain ⟨j,ys,aa,ac,g3,cap3,hj,rfl,rfl,hyl,hys,hrow,hab,hwr,hst⟩:=hrel
  have HY:=hid hys
  have HRW:=hid hrow
  have HAB:=hid hab
  have HWR:=hid hwr
  have HST:=hid hst
  clear hys hrow hab hwr hst W2 S2
  by_cases hlt : j < n
  ·obtain ⟨x,hx⟩ : ∃ x,xs[j]? = some x:=⟨_,List.getElem?_eq_getElem (by omega)⟩
   obtain ⟨b,off,rfl,hcell⟩ : ∃ b off,ha = some ⟨b,off,none⟩ ∧ ∀ (j : Nat) x,xs[j]? = some x → wr.cell? ⟨b,off + j * 2,none⟩ = some (.string x.1) ∧ wr.cell? ⟨b,off + j * 2 + 1,none⟩ = some (.int .i64 x.2):=by
    rcases (HM.out.kept HST.out.k (fun b off c h => by have:=HNE.out b off c h; simp; omega)).2 with h0 | h
    ·omega
    ·exact h
   have hcj:=hcell j x hx
   have hbl:=block_lt_of_cell hcj.1
   clear hcell
   obtain ⟨v0,v1⟩:=hcj
   have BN:=hid (below_new wr (.cells #[.string x.1,.int .i64 x.2] 64))
   have HC1:=hid (HE.out j x hx ys (wr.alloc (.cells #[.string x.1,.int .i64 x.2] 64)) g3 cap3 aa ac hyl HY.out (HST.out.trans (Stp.of_below BN.out)) (HWR.out.later BN.out) (ownS_keep HRW.out (fun B hB => BN.out.block B (lt_of_ownS HRW.out hB))) HAB.out)
   go_wp2_with fail
   generalize wr.alloc (.cells #[.string x.1,.int .i64 x.2] 64) = W at *
   have hszW:=BN.out.size
   refine HC1.out.mono ?_
   rintro e w5 ⟨y,rfl,hok,g4,cap4,hw5,hs5⟩
   have hgr : g3 < wr.heap.size:=HWR.out.g_lt
   have hRr : R < wr.heap.size:=HWR.out.lt
   have row5 : w5.ownsRow 0 64 2 (.slice aa j ac) j (ys.flatMap ocEx):=ownS_keep HRW.out (fun B hB => by
    have h1:=lt_of_ownS HRW.out hB
    have h2 : ∃ a,aa = some a ∧ a.block = B:=own_addr hB
    obtain ⟨a,ha1,ha2⟩:=h2
    have h3:=HAB.out a ha1
    have h4:=HST.out.size
    exact (hs5.block (b:=B) (by omega) (by omega) (by omega)).trans (BN.out.block B h1))
   have gg4:=hw5.g_lt
   have hab5 : ∀ b,aa = some b → b.block ≠ g4 ∧ b.block < w5.heap.size:=fun a ha1 => by
    have h3:=HAB.out a ha1
    have h1 : a.block < wr.heap.size:=lt_of_ownS HRW.out (own_addr' HRW.out ha1)
    exact ⟨hs5.ne (by omega) h3.2,Nat.lt_of_lt_of_le h1 (Nat.le_trans hszW hs5.size)⟩
   have W5:=hid hw5
   have S5:=hid (HST.out.trans ((Stp.of_below BN.out).trans hs5))
   have O5:=hid hok
   have BN5:=hid (below_new w5 (.cells #[.string y.1,.int .i64 y.2] 64))
   have R6:=hid (ownS_keep (w':=w5.alloc (.cells #[.string y.1,.int .i64 y.2] 64)) row5 (fun B hB => BN5.out.block B (lt_of_ownS row5 hB)))
   have HAB5:=hid hab5
   have NC:=hid (new_cellsEx w5 y)
   have hz6 : (w5.alloc (.cells #[.string y.1,.int .i64 y.2] 64)).heap.size = w5.heap.size + 1:=by simp
   clear hw5 hs5 row5 hab5 HC1 hok
   go_wp2_with (at_builtin; (refine app_rows _ rfl (.tmp 28) (.tmp 33) 27 rfl 64 i0 _ 2 24 Tryz.underlying27 hi hz0 hz1 hz2 rfl (by decide) _ j _ rfl R6.out ⟨w5.heap.size,0,none⟩ 1 1 (ocEx y) rfl rfl NC.out (one_cellsEx y) (by omega) (by unfold maxLen; omega) (by omega) ?_; intro B cap7 w7 hrow7 hor7; have R7:=hid hrow7; have OR7:=hid hor7; clear hrow7 hor7))
   generalize w5.alloc (.cells #[.string y.1,.int .i64 y.2] 64) = W6 at *
   have hBn : w.heap.size ≤ B ∧ B ≠ g4 ∧ Kept (fun k => k = B) W6 w7:=by
    rcases OR7.out with ⟨h1,h2⟩ | ⟨h1,h2⟩
    ·have h1' : aa = some ⟨B,0,none⟩:=(Value.slice.inj h1).1
     exact ⟨(HAB.out _ h1').1,(HAB5.out _ h1').1,h2⟩
    ·have:=S5.out.size
     exact ⟨by omega,by omega,h2.mono (fun k hk => hk.elim)⟩
   have hRw:=S5.out.size
   go_roundw
   ·refine ⟨j + 1,ys ++ [y],some ⟨B,0,none⟩,cap7,g4,cap4,by omega,rfl,rfl,by simp [hyl],?_,?_,?_,?_,?_⟩
    ·intro i y' hi'
     by_cases hij : i < ys.length
     ·rw [List.getElem?_append_left hij] at hi'
      exact HY.out i y' hi'
     ·rw [List.getElem?_append_right (by omega)] at hi'
      have hi0 : i - ys.length = 0:=by
       rcases Nat.eq_zero_or_pos (i - ys.length) with h | h
       ·exact h
       ·rw [List.getElem?_eq_none (by simp; omega)] at hi'; cases hi'
      rw [hi0] at hi'
      simp at hi'
      subst hi'
      obtain rfl : i = j:=by omega
      exact ⟨x,hx,O5.out⟩
    ·have:=R7.out
     simpa [RowS] using this
    ·intro b' hb'
     simp at hb'
     subst hb'
     exact ⟨hBn.1,hBn.2.1⟩
    ·have:=(W5.out.later BN5.out).kept hBn.2.2 (by omega) (Ne.symm hBn.2.1)
     rw [take_flat enc hx]
     simpa [List.append_assoc] using this
    ·exact ⟨(S5.out.k.trans (kept_of BN5.out)).then hBn.2.2 (fun k hk hkB => by have:=hBn.1; omega),S5.out.m⟩
   ·simp [intOf]; omega
  ·obtain rfl : j = n:=by omega
   have hxs : xs.take j = xs:=List.take_of_length_le (by omega)
   go_wp2_with fail
   go_ret
   refine ⟨aa,ac,ys,rfl,hyl,HY.out,HRW.out,g3,cap3,HAB.out,?_,HST.out⟩
   rw [← hxs]
   exact HWR.out
theorem list147_no (R g cap : Nat) (bs : List Int) (ha : Option Addr) (n hc : Nat) (most : Int) (K : Nat) (cs : Array Value) (w : World) (xs : List Ex) (enc : Ex → List Int) (Ok : Ex → Ex → Prop) (M : Nat)
  (h : Wr w R g cap bs) (hn : n ≤ 100000) (hm : (n : Int) ≤ most) (hmem : AtEx w ha n xs) (hne : ∀ b off c,ha = some ⟨b,off,c⟩ → b ≠ R ∧ b ≠ g)
  (hK : ∀ args w,(callFunc K args).run Tryz.prog w = .ok (.enter K args) w) (hlen : ∀ (j : Nat) x,xs[j]? = some x → (enc x).length ≤ M) (hM : M ≤ 1000000) (hb : bs.length + 200000000000 ≤ 1099511627776)
  (k : Nat) (xk : Ex) (er : Int) (hk : xs[k]? = some xk) (heach : ∀ (j : Nat) x,xs[j]? = some x → j < k → EachEx R g w K cs bs n xs enc Ok j x) (hno : EachNoEx R g w K cs bs n xs enc Ok k xk er) :
  Calls Tryz.prog 115 #[cW R,.slice ha n hc,.int .i64 most,.func (.func K) #[] cs] w (Throws R g er w):=by
 have hkn:=lt_of_get hk
 have hmc:=meth_count
 have hcc:=enter317
 have HC:=hid (count317_yes R g cap bs n most w h hm (by omega) (by omega))
 have hRl:=h.lt
 have hgl:=h.g_lt
 have hxl:=hmem.1
 have HM:=hid hmem
 have HNE:=hid hne
 have HE:=hid heach
 have HN:=hid hno
 obtain ⟨i0,hi,hz0,hz1,hz2⟩:=inf83
 clear h hmem heach hne hno
 go_enter Tryz.func115,Tryz.ntmps115
 go_wp2_with fail
 refine HC.out.mono ?_
 rintro e w2 ⟨rfl,g1,cap1,hw2,hs2⟩
 have W2:=hid hw2
 have S2:=hid hs2
 clear hw2 hs2 HC hmc hcc
 go_wp2_with fail
 go_loopw [9,17] (fun o i wr => ∃ (j : Nat) (ys : List Ex) (aa : Option Addr) (ac g1 cap1 : Nat),j ≤ k ∧ i = .int .i64 j ∧ o = .slice aa j ac ∧ ys.length = j ∧ (∀ (i : Nat) y,ys[i]? = some y → ∃ x,xs[i]? = some x ∧ Ok x y) ∧
   wr.ownsRow 0 64 2 (.slice aa j ac) j (ys.flatMap ocEx) ∧ (∀ b,aa = some b → w.heap.size ≤ b.block ∧ b.block ≠ g1) ∧ Wr wr R g1 cap1 (bs ++ uvar n ++ (xs.take j).flatMap enc) ∧ Stp R g g1 w wr) (fun _ i _ => n - (intOf i).toNat)
 case atStart => exact ⟨0,[],none,0,g1,cap1,by omega,rfl,rfl,rfl,(fun i y h => by simp at h),World.ownsRow_nil _ _ _ _,(fun b h => by cases h),by simpa using W2.out,S2.out⟩
 case round =>
  obtain ⟨j,ys,aa,ac,g3,cap3,hj,rfl,rfl,hyl,hys,hrow,hab,hwr,hst⟩:=hrel
  have HY:=hid hys
  have HRW:=hid hrow
  have HAB:=hid hab
  have HWR:=hid hwr
  have HST:=hid hst
  clear hys hrow hab hwr hst W2 S2
  have hlt : j < n:=by omega
  ·obtain ⟨x,hx⟩ : ∃ x,xs[j]? = some x:=⟨_,List.getElem?_eq_getElem (by omega)⟩
   obtain ⟨b,off,rfl,hcell⟩ : ∃ b off,ha = some ⟨b,off,none⟩ ∧ ∀ (j : Nat) x,xs[j]? = some x → wr.cell? ⟨b,off + j * 2,none⟩ = some (.string x.1) ∧ wr.cell? ⟨b,off + j * 2 + 1,none⟩ = some (.int .i64 x.2):=by
    rcases (HM.out.kept HST.out.k (fun b off c h => by have:=HNE.out b off c h; simp; omega)).2 with h0 | h
    ·omega
    ·exact h
   have hcj:=hcell j x hx
   have hbl:=block_lt_of_cell hcj.1
   clear hcell
   obtain ⟨v0,v1⟩:=hcj
   have BN:=hid (below_new wr (.cells #[.string x.1,.int .i64 x.2] 64))
   by_cases hjk : j < k
   ·skip
    have HC1:=hid (HE.out j x hx hjk ys (wr.alloc (.cells #[.string x.1,.int .i64 x.2] 64)) g3 cap3 aa ac hyl HY.out (HST.out.trans (Stp.of_below BN.out)) (HWR.out.later BN.out) (ownS_keep HRW.out (fun B hB => BN.out.block B (lt_of_ownS HRW.out hB))) HAB.out)
    go_wp2_with fail
    generalize wr.alloc (.cells #[.string x.1,.int .i64 x.2] 64) = W at *
    have hszW:=BN.out.size
    refine HC1.out.mono ?_
    rintro e w5 ⟨y,rfl,hok,g4,cap4,hw5,hs5⟩
    have hgr : g3 < wr.heap.size:=HWR.out.g_lt
    have hRr : R < wr.heap.size:=HWR.out.lt
    have row5 : w5.ownsRow 0 64 2 (.slice aa j ac) j (ys.flatMap ocEx):=ownS_keep HRW.out (fun B hB => by
     have h1:=lt_of_ownS HRW.out hB
     have h2 : ∃ a,aa = some a ∧ a.block = B:=own_addr hB
     obtain ⟨a,ha1,ha2⟩:=h2
     have h3:=HAB.out a ha1
     have h4:=HST.out.size
     exact (hs5.block (b:=B) (by omega) (by omega) (by omega)).trans (BN.out.block B h1))
    have gg4:=hw5.g_lt
    have hab5 : ∀ b,aa = some b → b.block ≠ g4 ∧ b.block < w5.heap.size:=fun a ha1 => by
     have h3:=HAB.out a ha1
     have h1 : a.block < wr.heap.size:=lt_of_ownS HRW.out (own_addr' HRW.out ha1)
     exact ⟨hs5.ne (by omega) h3.2,Nat.lt_of_lt_of_le h1 (Nat.le_trans hszW hs5.size)⟩
    have W5:=hid hw5
    have S5:=hid (HST.out.trans ((Stp.of_below BN.out).trans hs5))
    have O5:=hid hok
    have BN5:=hid (below_new w5 (.cells #[.string y.1,.int .i64 y.2] 64))
    have R6:=hid (ownS_keep (w':=w5.alloc (.cells #[.string y.1,.int .i64 y.2] 64)) row5 (fun B hB => BN5.out.block B (lt_of_ownS row5 hB)))
    have HAB5:=hid hab5
    have NC:=hid (new_cellsEx w5 y)
    have hz6 : (w5.alloc (.cells #[.string y.1,.int .i64 y.2] 64)).heap.size = w5.heap.size + 1:=by simp
    clear hw5 hs5 row5 hab5 HC1 hok
    go_wp2_with (at_builtin; (refine app_rows _ rfl (.tmp 28) (.tmp 33) 27 rfl 64 i0 _ 2 24 Tryz.underlying27 hi hz0 hz1 hz2 rfl (by decide) _ j _ rfl R6.out ⟨w5.heap.size,0,none⟩ 1 1 (ocEx y) rfl rfl NC.out (one_cellsEx y) (by omega) (by unfold maxLen; omega) (by omega) ?_; intro B cap7 w7 hrow7 hor7; have R7:=hid hrow7; have OR7:=hid hor7; clear hrow7 hor7))
    generalize w5.alloc (.cells #[.string y.1,.int .i64 y.2] 64) = W6 at *
    have hBn : w.heap.size ≤ B ∧ B ≠ g4 ∧ Kept (fun k => k = B) W6 w7:=by
     rcases OR7.out with ⟨h1,h2⟩ | ⟨h1,h2⟩
     ·have h1' : aa = some ⟨B,0,none⟩:=(Value.slice.inj h1).1
      exact ⟨(HAB.out _ h1').1,(HAB5.out _ h1').1,h2⟩
     ·have:=S5.out.size
      exact ⟨by omega,by omega,h2.mono (fun k hk => hk.elim)⟩
    have hRw:=S5.out.size
    go_roundw
    ·refine ⟨j + 1,ys ++ [y],some ⟨B,0,none⟩,cap7,g4,cap4,by omega,rfl,rfl,by simp [hyl],?_,?_,?_,?_,?_⟩
     ·intro i y' hi'
      by_cases hij : i < ys.length
      ·rw [List.getElem?_append_left hij] at hi'
       exact HY.out i y' hi'
      ·rw [List.getElem?_append_right (by omega)] at hi'
       have hi0 : i - ys.length = 0:=by
        rcases Nat.eq_zero_or_pos (i - ys.length) with h | h
        ·exact h
        ·rw [List.getElem?_eq_none (by simp; omega)] at hi'; cases hi'
       rw [hi0] at hi'
       simp at hi'
       subst hi'
       obtain rfl : i = j:=by omega
       exact ⟨x,hx,O5.out⟩
     ·have:=R7.out
      simpa [RowS] using this
     ·intro b' hb'
      simp at hb'
      subst hb'
      exact ⟨hBn.1,hBn.2.1⟩
     ·have:=(W5.out.later BN5.out).kept hBn.2.2 (by omega) (Ne.symm hBn.2.1)
      rw [take_flat enc hx]
      simpa [List.append_assoc] using this
     ·exact ⟨(S5.out.k.trans (kept_of BN5.out)).then hBn.2.2 (fun k hk hkB => by have:=hBn.1; omega),S5.out.m⟩
    ·simp [intOf]; omega
   ·obtain rfl : j = k:=by omega
    obtain rfl : x = xk:=by rw [hx] at hk; simpa using hk
    have HC1:=hid (HN.out ys (wr.alloc (.cells #[.string x.1,.int .i64 x.2] 64)) g3 cap3 aa ac hyl HY.out (HST.out.trans (Stp.of_below BN.out)) (HWR.out.later BN.out) (ownS_keep HRW.out (fun B hB => BN.out.block B (lt_of_ownS HRW.out hB))) HAB.out)
    go_wp2_with fail
    refine HC1.out.mono ?_
    rintro e w5 ⟨⟨p,rfl⟩,hk5⟩
    exact ⟨rfl,⟨p,rfl⟩,(HST.out.trans (Stp.of_below BN.out)).throw hk5⟩
theorem list147_many (R g cap : Nat) (bs : List Int) (ha : Option Addr) (n hc : Nat) (most : Int) (f : Value) (w : World) (h : Wr w R g cap bs) (hm : most < (n : Int)) :
  Calls Tryz.prog 115 #[cW R,.slice ha n hc,.int .i64 most,f] w (Throws R g 20 w):=by
 have hmc:=meth_count
 have hcc:=enter317
 have HC:=hid (count317_no R g cap bs n most w h hm)
 clear h
 go_enter Tryz.func115,Tryz.ntmps115
 go_wp2_with fail
 refine HC.out.mono ?_
 rintro e w2 ⟨⟨p,rfl⟩,hk⟩
 exact ⟨rfl,⟨p,rfl⟩,hk⟩
end Go.Proofs.YtepcmfegggdjfaaGreatDoor
