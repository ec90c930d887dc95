/-
  Texts Lex We.
-/
import Derived.Test.YtmgjhfookhaajaaGreatDoorQ01
import Derived.Test.YtmgjhfookhaajaaGreatDoorQ11
set_option linter.unusedVariables false
set_option maxRecDepth 100000
set_option maxHeartbeats 16000000
namespace Go.Proofs.YtmgjhfookhaajaaGreatDoor
open Go.RowKit
theorem inf83 : ∃ i,Tryz.prog.info? 76 = some i ∧ i.zero = some (.agg #[.string ⟨#[]⟩,.int .i64 0]) ∧ i.size = 2 ∧ i.bytes = 24:=by
 have h : (Tryz.prog.info? 76).map (fun i => (i.zero,i.size,i.bytes)) = some (some (.agg #[.string ⟨#[]⟩,.int .i64 0]),2,24):=by kernel_rfl
 cases hi : Tryz.prog.info? 76 with
 | none => rw [hi] at h; cases h
 | some i => rw [hi] at h; simp at h; exact ⟨i,rfl,h.1,h.2.1,h.2.2⟩
def ocEx (y : Ex) : List Value:=[.string y.1,.int .i64 y.2]
abbrev ivEx (x : Ex) : Value:=.agg #[.string x.1,.int .i64 x.2]
abbrev ovEx (y : Ex) : Value:=.agg #[.string y.1,.int .i64 y.2]
def AtEx (w : World) (a : Option Addr) (n : Nat) (xs : List Ex) : Prop :=
 xs.length = n ∧ (n = 0 ∨ ∃ b off,a = some ⟨b,off,none⟩ ∧ ∀ (j : Nat) x,xs[j]? = some x → w.cell? ⟨b,off + j * 2,none⟩ = some (.string x.1) ∧ w.cell? ⟨b,off + j * 2 + 1,none⟩ = some (.int .i64 x.2))
theorem AtEx.kept {S : Nat → Prop} {w w' : World} {a : Option Addr} {n : Nat} {xs : List Ex} (h : AtEx w a n xs) (hk : Kept S w w') (hS : ∀ b off c,a = some ⟨b,off,c⟩ → ¬ S b) : AtEx w' a n xs:=by
 refine ⟨h.1,h.2.imp id ?_⟩
 rintro ⟨b,off,ha,hc⟩
 refine ⟨b,off,ha,fun j x hj => ?_⟩
 have:=hc j x hj
 exact ⟨hk.cell this.1 (hS _ _ _ ha),hk.cell this.2 (hS _ _ _ ha)⟩
theorem new_cellsEx (w : World) (y : Ex) : ∀ j u,(ocEx y)[j]? = some u → (w.alloc (.cells #[.string y.1,.int .i64 y.2] 76)).cell? ((⟨w.heap.size,0,none⟩ : Addr).add j) = some u:=by
 intro j u hj
 have hlt:=lt_of_get hj
 have hl : (ocEx y).length = 2:=rfl
 rw [hl] at hlt
 have hadd : (⟨w.heap.size,0,none⟩ : Addr).add j = ⟨w.heap.size,j,none⟩:=by unfold Addr.add; split <;> simp_all
 rw [hadd]
 have hb:=(MapKept.heap_alloc w (.cells #[.string y.1,.int .i64 y.2] 76)).1
 simp only [World.cell?,hb]
 simpa [ocEx] using hj
theorem one_cellsEx (y : Ex) : ∀ u ∈ ocEx y,u.oneCell' = true:=by
 intro u hu
 simp [ocEx] at hu
 rcases hu with rfl | rfl <;> rfl
def EachEx (R g : Nat) (w : World) (K : Nat) (cs : Array Value) (bs : List Int) (n : Nat) (xs : List Ex) (enc : Ex → List Int) (Ok : Ex → Ex → Prop) (j : Nat) (x : Ex) : Prop :=
 ∀ (ys : List Ex) (W : World) (g1 cap1 : Nat) (aa : Option Addr) (ac : Nat),ys.length = j → (∀ (i : Nat) y,ys[i]? = some y → ∃ x',xs[i]? = some x' ∧ Ok x' y) → Stp R g g1 w W → Wr W R g1 cap1 (bs ++ uvar n ++ (xs.take j).flatMap enc) →
  W.ownsRow 0 76 2 (.slice aa j ac) j (ys.flatMap ocEx) → (∀ b,aa = some b → w.heap.size ≤ b.block ∧ b.block ≠ g1) →
  Calls Tryz.prog K (#[ivEx x,.slice aa j ac] ++ cs) W (fun e w' => ∃ y,e = .returned (ovEx y) ∧ Ok x y ∧ ∃ g' cap',Wr w' R g' cap' (bs ++ uvar n ++ (xs.take j).flatMap enc ++ enc x) ∧ Stp R g1 g' W w')
def EachNoEx (R g : Nat) (w : World) (K : Nat) (cs : Array Value) (bs : List Int) (n : Nat) (xs : List Ex) (enc : Ex → List Int) (Ok : Ex → Ex → Prop) (j : Nat) (x : Ex) (er : Int) : Prop :=
 ∀ (ys : List Ex) (W : World) (g1 cap1 : Nat) (aa : Option Addr) (ac : Nat),ys.length = j → (∀ (i : Nat) y,ys[i]? = some y → ∃ x',xs[i]? = some x' ∧ Ok x' y) → Stp R g g1 w W → Wr W R g1 cap1 (bs ++ uvar n ++ (xs.take j).flatMap enc) →
  W.ownsRow 0 76 2 (.slice aa j ac) j (ys.flatMap ocEx) → (∀ b,aa = some b → w.heap.size ≤ b.block ∧ b.block ≠ g1) →
  Calls Tryz.prog K (#[ivEx x,.slice aa j ac] ++ cs) W (Throws R g1 er W)
theorem list147_yes (R g cap : Nat) (bs : List Int) (ha : Option Addr) (n hc : Nat) (most : Int) (K : Nat) (cs : Array Value) (w : World) (xs : List Ex) (enc : Ex → List Int) (Ok : Ex → Ex → Prop) (M : Nat)
  (h : Wr w R g cap bs) (hn : n ≤ 100000) (hm : (n : Int) ≤ most) (hmem : AtEx w ha n xs) (hne : ∀ b off c,ha = some ⟨b,off,c⟩ → b ≠ R ∧ b ≠ g)
  (hK : ∀ args w,(callFunc K args).run Tryz.prog w = .ok (.enter K args) w) (hlen : ∀ (j : Nat) x,xs[j]? = some x → (enc x).length ≤ M) (hM : M ≤ 1000000) (hb : bs.length + 200000000000 ≤ 1099511627776)
  (heach : ∀ (j : Nat) x,xs[j]? = some x → EachEx R g w K cs bs n xs enc Ok j x) :
  Calls Tryz.prog 93 #[cW R,.slice ha n hc,.int .i64 most,.func (.func K) #[] cs] w fun e w' => ∃ (aa : Option Addr) (ac : Nat) (ys : List Ex),e = .returned (.slice aa n ac) ∧ ys.length = n ∧ (∀ (i : Nat) y,ys[i]? = some y → ∃ x,xs[i]? = some x ∧ Ok x y) ∧
   w'.ownsRow 0 76 2 (.slice aa n ac) n (ys.flatMap ocEx) ∧ ∃ g' cap',(∀ b,aa = some b → w.heap.size ≤ b.block ∧ b.block ≠ g') ∧ Wr w' R g' cap' (bs ++ uvar n ++ xs.flatMap enc) ∧ Stp R g g' w w':=by
 have hmc:=meth_count
 have hcc:=enter317
 have HC:=hid (count317_yes R g cap bs n most w h hm (by omega) (by omega))
 have hRl:=h.lt
 have hgl:=h.g_lt
 have hxl:=hmem.1
 have HM:=hid hmem
 have HNE:=hid hne
 have HE:=hid heach
 obtain ⟨i0,hi,hz0,hz1,hz2⟩:=inf83
 clear h hmem heach hne
 go_enter Tryz.func93,Tryz.ntmps93
 go_wp2_with fail
 refine HC.out.mono ?_
 rintro e w2 ⟨rfl,g1,cap1,hw2,hs2⟩
 have W2:=hid hw2
 have S2:=hid hs2
 clear hw2 hs2 HC hmc hcc
 go_wp2_with fail
 go_loopw [9,17] (fun o i wr => ∃ (j : Nat) (ys : List Ex) (aa : Option Addr) (ac g1 cap1 : Nat),j ≤ n ∧ i = .int .i64 j ∧ o = .slice aa j ac ∧ ys.length = j ∧ (∀ (i : Nat) y,ys[i]? = some y → ∃ x,xs[i]? = some x ∧ Ok x y) ∧
   wr.ownsRow 0 76 2 (.slice aa j ac) j (ys.flatMap ocEx) ∧ (∀ b,aa = some b → w.heap.size ≤ b.block ∧ b.block ≠ g1) ∧ Wr wr R g1 cap1 (bs ++ uvar n ++ (xs.take j).flatMap enc) ∧ Stp R g g1 w wr) (fun _ i _ => n - (intOf i).toNat)
 case atStart => exact ⟨0,[],none,0,g1,cap1,by omega,rfl,rfl,rfl,(fun i y h => by simp at h),World.ownsRow_nil _ _ _ _,(fun b h => by cases h),by simpa using W2.out,S2.out⟩
 case round =>
  obtain ⟨j,ys,aa,ac,g3,cap3,hj,rfl,rfl,hyl,hys,hrow,hab,hwr,hst⟩:=hrel
  have HY:=hid hys
  have HRW:=hid hrow
  have HAB:=hid hab
  have HWR:=hid hwr
  have HST:=hid hst
  clear hys hrow hab hwr hst W2 S2
  by_cases hlt : j < n
  ·obtain ⟨x,hx⟩ : ∃ x,xs[j]? = some x:=⟨_,List.getElem?_eq_getElem (by omega)⟩
   obtain ⟨b,off,rfl,hcell⟩ : ∃ b off,ha = some ⟨b,off,none⟩ ∧ ∀ (j : Nat) x,xs[j]? = some x → wr.cell? ⟨b,off + j * 2,none⟩ = some (.string x.1) ∧ wr.cell? ⟨b,off + j * 2 + 1,none⟩ = some (.int .i64 x.2):=by
    rcases (HM.out.kept HST.out.k (fun b off c h => by have:=HNE.out b off c h; simp; omega)).2 with h0 | h
    ·omega
    ·exact h
   have hcj:=hcell j x hx
   have hbl:=block_lt_of_cell hcj.1
   clear hcell
   obtain ⟨v0,v1⟩:=hcj
   have BN:=hid (below_new wr (.cells #[.string x.1,.int .i64 x.2] 76))
   have HC1:=hid (HE.out j x hx ys (wr.alloc (.cells #[.string x.1,.int .i64 x.2] 76)) g3 cap3 aa ac hyl HY.out (HST.out.trans (Stp.of_below BN.out)) (HWR.out.later BN.out) (ownS_keep HRW.out (fun B hB => BN.out.block B (lt_of_ownS HRW.out hB))) HAB.out)
   go_wp2_with fail
   generalize wr.alloc (.cells #[.string x.1,.int .i64 x.2] 76) = W at *
   have hszW:=BN.out.size
   refine HC1.out.mono ?_
   rintro e w5 ⟨y,rfl,hok,g4,cap4,hw5,hs5⟩
   have hgr : g3 < wr.heap.size:=HWR.out.g_lt
   have hRr : R < wr.heap.size:=HWR.out.lt
   have row5 : w5.ownsRow 0 76 2 (.slice aa j ac) j (ys.flatMap ocEx):=ownS_keep HRW.out (fun B hB => by
    have h1:=lt_of_ownS HRW.out hB
    have h2 : ∃ a,aa = some a ∧ a.block = B:=own_addr hB
    obtain ⟨a,ha1,ha2⟩:=h2
    have h3:=HAB.out a ha1
    have h4:=HST.out.size
    exact (hs5.block (b:=B) (by omega) (by omega) (by omega)).trans (BN.out.block B h1))
   have gg4:=hw5.g_lt
   have hab5 : ∀ b,aa = some b → b.block ≠ g4 ∧ b.block < w5.heap.size:=fun a ha1 => by
    have h3:=HAB.out a ha1
    have h1 : a.block < wr.heap.size:=lt_of_ownS HRW.out (own_addr' HRW.out ha1)
    exact ⟨hs5.ne (by omega) h3.2,Nat.lt_of_lt_of_le h1 (Nat.le_trans hszW hs5.size)⟩
   have W5:=hid hw5
   have S5:=hid (HST.out.trans ((Stp.of_below BN.out).trans hs5))
   have O5:=hid hok
   have BN5:=hid (below_new w5 (.cells #[.string y.1,.int .i64 y.2] 76))
   have R6:=hid (ownS_keep (w':=w5.alloc (.cells #[.string y.1,.int .i64 y.2] 76)) row5 (fun B hB => BN5.out.block B (lt_of_ownS row5 hB)))
   have HAB5:=hid hab5
   have NC:=hid (new_cellsEx w5 y)
   have hz6 : (w5.alloc (.cells #[.string y.1,.int .i64 y.2] 76)).heap.size = w5.heap.size + 1:=by simp
   clear hw5 hs5 row5 hab5 HC1 hok
   go_wp2_with (at_builtin; (refine app_rows _ rfl (.tmp 28) (.tmp 33) 34 rfl 76 i0 _ 2 24 Tryz.underlying34 hi hz0 hz1 hz2 rfl (by decide) _ j _ rfl R6.out ⟨w5.heap.size,0,none⟩ 1 1 (ocEx y) rfl rfl NC.out (one_cellsEx y) (by omega) (by unfold maxLen; omega) (by omega) ?_; intro B cap7 w7 hrow7 hor7; have R7:=hid hrow7; have OR7:=hid hor7; clear hrow7 hor7))
   generalize w5.alloc (.cells #[.string y.1,.int .i64 y.2] 76) = W6 at *
   have hBn : w.heap.size ≤ B ∧ B ≠ g4 ∧ Kept (fun k => k = B) W6 w7:=by
    rcases OR7.out with ⟨h1,h2⟩ | ⟨h1,h2⟩
    ·have h1' : aa = some ⟨B,0,none⟩:=(Value.slice.inj h1).1
     exact ⟨(HAB.out _ h1').1,(HAB5.out _ h1').1,h2⟩
    ·have:=S5.out.size
     exact ⟨by omega,by omega,h2.mono (fun k hk => hk.elim)⟩
   have hRw:=S5.out.size
   go_roundw
   ·refine ⟨j + 1,ys ++ [y],some ⟨B,0,none⟩,cap7,g4,cap4,by omega,rfl,rfl,by simp [hyl],?_,?_,?_,?_,?_⟩
    ·intro i y' hi'
     by_cases hij : i < ys.length
     ·rw [List.getElem?_append_left hij] at hi'
      exact HY.out i y' hi'
     ·rw [List.getElem?_append_right (by omega)] at hi'
      have hi0 : i - ys.length = 0:=by
       rcases Nat.eq_zero_or_pos (i - ys.length) with h | h
       ·exact h
       ·rw [List.getElem?_eq_none (by simp; omega)] at hi'; cases hi'
      rw [hi0] at hi'
      simp at hi'
      subst hi'
      obtain rfl : i = j:=by omega
      exact ⟨x,hx,O5.out⟩
    ·have:=R7.out
     simpa [RowS] using this
    ·intro b' hb'
     simp at hb'
     subst hb'
     exact ⟨hBn.1,hBn.2.1⟩
    ·have:=(W5.out.later BN5.out).kept hBn.2.2 (by omega) (Ne.symm hBn.2.1)
     rw [take_flat enc hx]
     simpa [List.append_assoc] using this
    ·exact ⟨(S5.out.k.trans (kept_of BN5.out)).then hBn.2.2 (fun k hk hkB => by have:=hBn.1; omega),S5.out.m⟩
   ·simp [intOf]; omega
  ·obtain rfl : j = n:=by omega
   have hxs : xs.take j = xs:=List.take_of_length_le (by omega)
   go_wp2_with fail
   go_ret
   refine ⟨aa,ac,ys,rfl,hyl,HY.out,HRW.out,g3,cap3,HAB.out,?_,HST.out⟩
   rw [← hxs]
   exact HWR.out
theorem list147_no (R g cap : Nat) (bs : List Int) (ha : Option Addr) (n hc : Nat) (most : Int) (K : Nat) (cs : Array Value) (w : World) (xs : List Ex) (enc : Ex → List Int) (Ok : Ex → Ex → Prop) (M : Nat)
  (h : Wr w R g cap bs) (hn : n ≤ 100000) (hm : (n : Int) ≤ most) (hmem : AtEx w ha n xs) (hne : ∀ b off c,ha = some ⟨b,off,c⟩ → b ≠ R ∧ b ≠ g)
  (hK : ∀ args w,(callFunc K args).run Tryz.prog w = .ok (.enter K args) w) (hlen : ∀ (j : Nat) x,xs[j]? = some x → (enc x).length ≤ M) (hM : M ≤ 1000000) (hb : bs.length + 200000000000 ≤ 1099511627776)
  (k : Nat) (xk : Ex) (er : Int) (hk : xs[k]? = some xk) (heach : ∀ (j : Nat) x,xs[j]? = some x → j < k → EachEx R g w K cs bs n xs enc Ok j x) (hno : EachNoEx R g w K cs bs n xs enc Ok k xk er) :
  Calls Tryz.prog 93 #[cW R,.slice ha n hc,.int .i64 most,.func (.func K) #[] cs] w (Throws R g er w):=by
 have hkn:=lt_of_get hk
 have hmc:=meth_count
 have hcc:=enter317
 have HC:=hid (count317_yes R g cap bs n most w h hm (by omega) (by omega))
 have hRl:=h.lt
 have hgl:=h.g_lt
 have hxl:=hmem.1
 have HM:=hid hmem
 have HNE:=hid hne
 have HE:=hid heach
 have HN:=hid hno
 obtain ⟨i0,hi,hz0,hz1,hz2⟩:=inf83
 clear h hmem heach hne hno
 go_enter Tryz.func93,Tryz.ntmps93
 go_wp2_with fail
 refine HC.out.mono ?_
 rintro e w2 ⟨rfl,g1,cap1,hw2,hs2⟩
 have W2:=hid hw2
 have S2:=hid hs2
 clear hw2 hs2 HC hmc hcc
 go_wp2_with fail
 go_loopw [9,17] (fun o i wr => ∃ (j : Nat) (ys : List Ex) (aa : Option Addr) (ac g1 cap1 : Nat),j ≤ k ∧ i = .int .i64 j ∧ o = .slice aa j ac ∧ ys.length = j ∧ (∀ (i : Nat) y,ys[i]? = some y → ∃ x,xs[i]? = some x ∧ Ok x y) ∧
   wr.ownsRow 0 76 2 (.slice aa j ac) j (ys.flatMap ocEx) ∧ (∀ b,aa = some b → w.heap.size ≤ b.block ∧ b.block ≠ g1) ∧ Wr wr R g1 cap1 (bs ++ uvar n ++ (xs.take j).flatMap enc) ∧ Stp R g g1 w wr) (fun _ i _ => n - (intOf i).toNat)
 case atStart => exact ⟨0,[],none,0,g1,cap1,by omega,rfl,rfl,rfl,(fun i y h => by simp at h),World.ownsRow_nil _ _ _ _,(fun b h => by cases h),by simpa using W2.out,S2.out⟩
 case round =>
  obtain ⟨j,ys,aa,ac,g3,cap3,hj,rfl,rfl,hyl,hys,hrow,hab,hwr,hst⟩:=hrel
  have HY:=hid hys
  have HRW:=hid hrow
  have HAB:=hid hab
  have HWR:=hid hwr
  have HST:=hid hst
  clear hys hrow hab hwr hst W2 S2
  have hlt : j < n:=by omega
  ·obtain ⟨x,hx⟩ : ∃ x,xs[j]? = some x:=⟨_,List.getElem?_eq_getElem (by omega)⟩
   obtain ⟨b,off,rfl,hcell⟩ : ∃ b off,ha = some ⟨b,off,none⟩ ∧ ∀ (j : Nat) x,xs[j]? = some x → wr.cell? ⟨b,off + j * 2,none⟩ = some (.string x.1) ∧ wr.cell? ⟨b,off + j * 2 + 1,none⟩ = some (.int .i64 x.2):=by
    rcases (HM.out.kept HST.out.k (fun b off c h => by have:=HNE.out b off c h; simp; omega)).2 with h0 | h
    ·omega
    ·exact h
   have hcj:=hcell j x hx
   have hbl:=block_lt_of_cell hcj.1
   clear hcell
   obtain ⟨v0,v1⟩:=hcj
   have BN:=hid (below_new wr (.cells #[.string x.1,.int .i64 x.2] 76))
   by_cases hjk : j < k
   ·skip
    have HC1:=hid (HE.out j x hx hjk ys (wr.alloc (.cells #[.string x.1,.int .i64 x.2] 76)) g3 cap3 aa ac hyl HY.out (HST.out.trans (Stp.of_below BN.out)) (HWR.out.later BN.out) (ownS_keep HRW.out (fun B hB => BN.out.block B (lt_of_ownS HRW.out hB))) HAB.out)
    go_wp2_with fail
    generalize wr.alloc (.cells #[.string x.1,.int .i64 x.2] 76) = W at *
    have hszW:=BN.out.size
    refine HC1.out.mono ?_
    rintro e w5 ⟨y,rfl,hok,g4,cap4,hw5,hs5⟩
    have hgr : g3 < wr.heap.size:=HWR.out.g_lt
    have hRr : R < wr.heap.size:=HWR.out.lt
    have row5 : w5.ownsRow 0 76 2 (.slice aa j ac) j (ys.flatMap ocEx):=ownS_keep HRW.out (fun B hB => by
     have h1:=lt_of_ownS HRW.out hB
     have h2 : ∃ a,aa = some a ∧ a.block = B:=own_addr hB
     obtain ⟨a,ha1,ha2⟩:=h2
     have h3:=HAB.out a ha1
     have h4:=HST.out.size
     exact (hs5.block (b:=B) (by omega) (by omega) (by omega)).trans (BN.out.block B h1))
    have gg4:=hw5.g_lt
    have hab5 : ∀ b,aa = some b → b.block ≠ g4 ∧ b.block < w5.heap.size:=fun a ha1 => by
     have h3:=HAB.out a ha1
     have h1 : a.block < wr.heap.size:=lt_of_ownS HRW.out (own_addr' HRW.out ha1)
     exact ⟨hs5.ne (by omega) h3.2,Nat.lt_of_lt_of_le h1 (Nat.le_trans hszW hs5.size)⟩
    have W5:=hid hw5
    have S5:=hid (HST.out.trans ((Stp.of_below BN.out).trans hs5))
    have O5:=hid hok
    have BN5:=hid (below_new w5 (.cells #[.string y.1,.int .i64 y.2] 76))
    have R6:=hid (ownS_keep (w':=w5.alloc (.cells #[.string y.1,.int .i64 y.2] 76)) row5 (fun B hB => BN5.out.block B (lt_of_ownS row5 hB)))
    have HAB5:=hid hab5
    have NC:=hid (new_cellsEx w5 y)
    have hz6 : (w5.alloc (.cells #[.string y.1,.int .i64 y.2] 76)).heap.size = w5.heap.size + 1:=by simp
    clear hw5 hs5 row5 hab5 HC1 hok
    go_wp2_with (at_builtin; (refine app_rows _ rfl (.tmp 28) (.tmp 33) 34 rfl 76 i0 _ 2 24 Tryz.underlying34 hi hz0 hz1 hz2 rfl (by decide) _ j _ rfl R6.out ⟨w5.heap.size,0,none⟩ 1 1 (ocEx y) rfl rfl NC.out (one_cellsEx y) (by omega) (by unfold maxLen; omega) (by omega) ?_; intro B cap7 w7 hrow7 hor7; have R7:=hid hrow7; have OR7:=hid hor7; clear hrow7 hor7))
    generalize w5.alloc (.cells #[.string y.1,.int .i64 y.2] 76) = W6 at *
    have hBn : w.heap.size ≤ B ∧ B ≠ g4 ∧ Kept (fun k => k = B) W6 w7:=by
     rcases OR7.out with ⟨h1,h2⟩ | ⟨h1,h2⟩
     ·have h1' : aa = some ⟨B,0,none⟩:=(Value.slice.inj h1).1
      exact ⟨(HAB.out _ h1').1,(HAB5.out _ h1').1,h2⟩
     ·have:=S5.out.size
      exact ⟨by omega,by omega,h2.mono (fun k hk => hk.elim)⟩
    have hRw:=S5.out.size
    go_roundw
    ·refine ⟨j + 1,ys ++ [y],some ⟨B,0,none⟩,cap7,g4,cap4,by omega,rfl,rfl,by simp [hyl],?_,?_,?_,?_,?_⟩
     ·intro i y' hi'
      by_cases hij : i < ys.length
      ·rw [List.getElem?_append_left hij] at hi'
       exact HY.out i y' hi'
      ·rw [List.getElem?_append_right (by omega)] at hi'
       have hi0 : i - ys.length = 0:=by
        rcases Nat.eq_zero_or_pos (i - ys.length) with h | h
        ·exact h
        ·rw [List.getElem?_eq_none (by simp; omega)] at hi'; cases hi'
       rw [hi0] at hi'
       simp at hi'
       subst hi'
       obtain rfl : i = j:=by omega
       exact ⟨x,hx,O5.out⟩
     ·have:=R7.out
      simpa [RowS] using this
     ·intro b' hb'
      simp at hb'
      subst hb'
      exact ⟨hBn.1,hBn.2.1⟩
     ·have:=(W5.out.later BN5.out).kept hBn.2.2 (by omega) (Ne.symm hBn.2.1)
      rw [take_flat enc hx]
      simpa [List.append_assoc] using this
     ·exact ⟨(S5.out.k.trans (kept_of BN5.out)).then hBn.2.2 (fun k hk hkB => by have:=hBn.1; omega),S5.out.m⟩
    ·simp [intOf]; omega
   ·obtain rfl : j = k:=by omega
    obtain rfl : x = xk:=by rw [hx] at hk; simpa using hk
    have HC1:=hid (HN.out ys (wr.alloc (.cells #[.string x.1,.int .i64 x.2] 76)) g3 cap3 aa ac hyl HY.out (HST.out.trans (Stp.of_below BN.out)) (HWR.out.later BN.out) (ownS_keep HRW.out (fun B hB => BN.out.block B (lt_of_ownS HRW.out hB))) HAB.out)
    go_wp2_with fail
    refine HC1.out.mono ?_
    rintro e w5 ⟨⟨p,rfl⟩,hk5⟩
    exact ⟨rfl,⟨p,rfl⟩,(HST.out.trans (Stp.of_below BN.out)).throw hk5⟩
theorem list147_many (R g cap : Nat) (bs : List Int) (ha : Option Addr) (n hc : Nat) (most : Int) (f : Value) (w : World) (h : Wr w R g cap bs) (hm : most < (n : Int)) :
  Calls Tryz.prog 93 #[cW R,.slice ha n hc,.int .i64 most,f] w (Throws R g 20 w):=by
 have hmc:=meth_count
 have hcc:=enter317
 have HC:=hid (count317_no R g cap bs n most w h hm)
 clear h
 go_enter Tryz.func93,Tryz.ntmps93
 go_wp2_with fail
 refine HC.out.mono ?_
 rintro e w2 ⟨⟨p,rfl⟩,hk⟩
 exact ⟨rfl,⟨p,rfl⟩,hk⟩
theorem isName200 (s : ByteArray) (w : World) (hs : s.size ≤ 1000000) : Calls Tryz.prog 125 #[.string s] w fun e w' => e = .returned (.bool (isNm s)) ∧ Below w.heap.size w w':=by
 obtain ⟨c,W,hrun,hseg,hbl,hsz⟩:=conv_str w s hs
 have hc : ∀ j,j < s.size → W.cell? ⟨w.heap.size,j,none⟩ = some (.int .u8 ((strBytes s).getD j 0)):=by
  rcases hseg.2.2.2.2 with h0 | ⟨b,off,hb,h⟩
  ·intro j hj; omega
  ·simp at hb
   obtain ⟨rfl,rfl⟩:=hb
   intro j hj
   have:=h j hj
   rwa [Nat.zero_add] at this
 have hcap:=hseg.2.1
 have hsl:=strBytes_len s
 have HB:=hid hbl
 have HNM : Hid (isNm s = ((strBytes s).all (fun b => decide (33 ≤ b) && decide (b ≤ 126)) && !s.toList.isEmpty)):=rfl
 generalize isNm s = N at *
 generalize strBytes s = zs at *
 clear hseg hbl
 go_enter Tryz.func125,Tryz.ntmps125
 go_wp2_with fail
 clear hrun
 go_loopw [8] (fun i wr => ∃ j : Nat,j ≤ s.size ∧ i = .int .i64 j ∧ wr = W ∧ (zs.take j).all (fun b => decide (33 ≤ b) && decide (b ≤ 126)) = true) (fun i _ => s.size - (intOf i).toNat)
 case atStart => exact ⟨0,by omega,rfl,rfl,by simp⟩
 case round =>
  obtain ⟨j,hj,rfl,rfl,hall⟩:=hrel
  have HALL:=hid hall
  clear hall
  by_cases hlt : j < s.size
  ·have hcj:=hc j hlt
   have hjz : j < zs.length:=by omega
   have hgd : zs.getD j 0 = zs[j]:=by simp [List.getD,hjz]
   have HZ:=hid hgd
   rw [hgd] at hcj
   have HJ:=hid (List.take_succ_eq_append_getElem hjz)
   have HMEM : Hid (zs[j] ∈ zs):=List.getElem_mem hjz
   generalize zs[j] = b at *
   clear hgd hc
   by_cases h33 : b < 33
   ·have d1 : decide (b < 33) = true:=by simp [h33]
    go_wp2_with fail
    go_ret
    refine ⟨?_,HB.out⟩
    have hf : zs.all (fun b => decide (33 ≤ b) && decide (b ≤ 126)) = false:=by
     rw [List.all_eq_false]
     exact ⟨b,HMEM.out,by simp; omega⟩
    rw [HNM.out,hf]
    rfl
   ·have d1 : decide (b < 33) = false:=by simp; omega
    by_cases h126 : 126 < b
    ·have d2 : decide (126 < b) = true:=by simp [h126]
     go_wp2_with fail
     go_ret
     refine ⟨?_,HB.out⟩
     have hf : zs.all (fun b => decide (33 ≤ b) && decide (b ≤ 126)) = false:=by
      rw [List.all_eq_false]
      exact ⟨b,HMEM.out,by simp; omega⟩
     rw [HNM.out,hf]
     rfl
    ·have d2 : decide (126 < b) = false:=by simp; omega
     go_wp2_with fail
     go_roundw
     ·refine ⟨j + 1,by omega,rfl,?_,?_⟩
      ·first | rfl | trivial
      rw [HJ.out,List.all_append,HALL.out]
      simp; omega
     ·simp [intOf]; omega
  ·obtain rfl : j = s.size:=by omega
   have ht : zs.take s.size = zs:=List.take_of_length_le (by omega)
   rw [ht] at HALL
   go_wp2_with fail
   go_ret
   refine ⟨?_,HB.out⟩
   rw [HNM.out,HALL.out]
   simp
section
variable (s : ByteArray) (p : Int) (A : Nat) (aa : Option Addr) (an ac : Nat) (ys : List Ex) (w : World)
theorem ask199_23 (hs : s.size ≤ 1000000) (hn : isNm s = false) : Calls Tryz.prog 124 #[.string s,.int .i64 p,.pointer (some ⟨A,0,none⟩)] w (Bars 23 w):=by
 have HI:=hid (isName200 s w hs)
 rw [hn] at HI
 go_enter Tryz.func124,Tryz.ntmps124
 go_wp2_with fail
 refine HI.out.mono ?_
 rintro e w1 ⟨rfl,hb⟩
 have HB:=hid hb
 clear hb HI
 go_wp2_with fail
 refine (bars_of rfl).mono ?_
 rintro e w1 ⟨rfl,rfl⟩
 exact ⟨rfl,⟨_,rfl⟩,HB.out⟩
theorem last_cell (hl : ys.length = an) (hrow : w.ownsRow 0 76 2 (.slice aa an ac) an (ys.flatMap ocEx)) (h0 : 0 < an) : ∃ B y,aa = some ⟨B,0,none⟩ ∧ ys.getLast? = some y ∧ w.cell? ⟨B,(an - 1) * 2,none⟩ = some (.string y.1):=by
 obtain ⟨y,hy⟩ : ∃ y,ys[an - 1]? = some y:=⟨_,List.getElem?_eq_getElem (by omega)⟩
 obtain ⟨B,hB,hc⟩:=row_cell (oc:=ocEx) (t:=0) (u:=.string y.1) (fun _ => rfl) hrow hy rfl
 refine ⟨B,y,hB,?_,hc⟩
 rw [List.getLast?_eq_getElem?,hl]
 exact hy
theorem ask199_yes (hs : s.size ≤ 1000000) (hn : isNm s = true) (hl : ys.length = an) (han : an ≤ 100000) (hrow : w.ownsRow 0 76 2 (.slice aa an ac) an (ys.flatMap ocEx)) (ho : badOrd ys s = false) (hA : w.cell? ⟨A,0,none⟩ = some (.slice aa an ac)) :
  Calls Tryz.prog 124 #[.string s,.int .i64 p,.pointer (some ⟨A,0,none⟩)] w (Asks w):=by
 have HI:=hid (isName200 s w hs)
 rw [hn] at HI
 have hAl:=block_lt_of_cell hA
 have HA:=hid hA
 have HR:=hid hrow
 clear hA hrow
 go_enter Tryz.func124,Tryz.ntmps124
 go_wp2_with fail
 refine HI.out.mono ?_
 rintro e w1 ⟨rfl,hb⟩
 have HB:=hid hb
 have hA1:=(hb.cell (by exact hAl)).trans HA.out
 have R1:=hid (ownS_keep HR.out (fun B hB => hb.block B (lt_of_ownS HR.out hB)))
 clear hb HI
 by_cases h0 : an = 0
 ·subst h0
  go_wp2_with fail
  refine (asks_of rfl).mono ?_
  rintro e w1 ⟨rfl,rfl⟩
  go_wp2_with fail
  refine (asks_of rfl).mono ?_
  rintro e w1 ⟨rfl,rfl⟩
  go_wp2_with fail
  go_end0
  exact ⟨rfl,HB.out⟩
 ·obtain ⟨B,y,rfl,hy,hcell⟩:=last_cell aa an ac ys w1 hl R1.out (by omega)
  have hg : (!Op.bytesLess s.toList y.1.toList && !s.toList == y.1.toList) = true:=by
   have:=ho
   unfold badOrd at this
   rw [hy] at this
   simpa [sGt] using this
  have hz : ((an : Int) == 0) = false:=by simp; omega
  go_wp2_with fail
  refine (asks_of rfl).mono ?_
  rintro e w1 ⟨rfl,rfl⟩
  go_wp2_with fail
  refine (asks_of (by first | rfl | exact hg)).mono ?_
  rintro e w1 ⟨rfl,rfl⟩
  go_wp2_with fail
  go_end0
  exact ⟨rfl,HB.out⟩
theorem ask199_18 (hs : s.size ≤ 1000000) (hn : isNm s = true) (hl : ys.length = an) (han : an ≤ 100000) (hrow : w.ownsRow 0 76 2 (.slice aa an ac) an (ys.flatMap ocEx)) (ho : badOrd ys s = true) (hA : w.cell? ⟨A,0,none⟩ = some (.slice aa an ac)) :
  Calls Tryz.prog 124 #[.string s,.int .i64 p,.pointer (some ⟨A,0,none⟩)] w (Bars 18 w):=by
 have HI:=hid (isName200 s w hs)
 rw [hn] at HI
 have hAl:=block_lt_of_cell hA
 have HA:=hid hA
 have HR:=hid hrow
 clear hA hrow
 go_enter Tryz.func124,Tryz.ntmps124
 go_wp2_with fail
 refine HI.out.mono ?_
 rintro e w1 ⟨rfl,hb⟩
 have HB:=hid hb
 have hA1:=(hb.cell (by exact hAl)).trans HA.out
 have R1:=hid (ownS_keep HR.out (fun B hB => hb.block B (lt_of_ownS HR.out hB)))
 clear hb HI
 have h0 : 0 < an:=by
  rcases Nat.eq_zero_or_pos an with h | h
  ·have : ys = []:=List.eq_nil_of_length_eq_zero (by omega)
   subst this
   simp [badOrd] at ho
  ·exact h
 obtain ⟨B,y,rfl,hy,hcell⟩:=last_cell aa an ac ys w1 hl R1.out h0
 have hg : (!Op.bytesLess s.toList y.1.toList && !s.toList == y.1.toList) = false:=by
  have:=ho
  unfold badOrd at this
  rw [hy] at this
  cases hq : (!Op.bytesLess s.toList y.1.toList && !s.toList == y.1.toList)
  ·rfl
  ·simp [sGt,hq] at this
 have hz : ((an : Int) == 0) = false:=by simp; omega
 go_wp2_with fail
 refine (asks_of rfl).mono ?_
 rintro e w1 ⟨rfl,rfl⟩
 go_wp2_with fail
 refine (bars_of (by first | rfl | exact hg)).mono ?_
 rintro e w1 ⟨rfl,rfl⟩
 exact ⟨rfl,⟨_,rfl⟩,HB.out⟩
end
def W149 (w : World) (nm : ByteArray) (fn : Int) (aa : Option Addr) (an ac : Nat) : World :=
 ((w.alloc (.cells #[.string nm,.int .i64 fn] 76)).alloc (.cells #[.slice aa an ac] 34)).alloc (.cells #[.string ⟨#[]⟩,.int .i64 0] 76)
theorem w149_facts (w : World) (nm : ByteArray) (fn : Int) (aa : Option Addr) (an ac : Nat) : Below w.heap.size w (W149 w nm fn aa an ac) ∧ (W149 w nm fn aa an ac).heap.size = w.heap.size + 1 + 1 + 1 ∧
  (W149 w nm fn aa an ac).heap[w.heap.size]? = some (.cells #[.string nm,.int .i64 fn] 76) ∧ (W149 w nm fn aa an ac).cell? ⟨w.heap.size + 1,0,none⟩ = some (.slice aa an ac) ∧ (W149 w nm fn aa an ac).heap[w.heap.size + 1 + 1]? = some (.cells #[.string ⟨#[]⟩,.int .i64 0] 76):=by
 unfold W149
 refine ⟨(((Below.refl _ w).alloc (Nat.le_refl _) _).alloc (by simp) _).alloc (by simp <;> omega) _,by simp,?_,by simp [go_sem],?_⟩
 ·rw [(below_new ((w.alloc (.cells #[.string nm,.int .i64 fn] 76)).alloc (.cells #[.slice aa an ac] 34)) _).block w.heap.size (by simp <;> omega),(below_new (w.alloc (.cells #[.string nm,.int .i64 fn] 76)) _).block w.heap.size (by simp)]
  exact (MapKept.heap_alloc w _).1
 ·have:=(MapKept.heap_alloc ((w.alloc (.cells #[.string nm,.int .i64 fn] 76)).alloc (.cells #[.slice aa an ac] 34)) (.cells #[.string ⟨#[]⟩,.int .i64 0] 76)).1
  simpa using this
section
variable (R g cap : Nat) (bs : List Int) (nm : ByteArray) (fn nf : Int) (aa : Option Addr) (an ac : Nat) (ys : List Ex) (w : World)
theorem exp149_t (h : Wr w R g cap bs) (x : Int) (hrow : w.ownsRow 0 76 2 (.slice aa an ac) an (ys.flatMap ocEx))
  (ht : ∀ W,Wr W R g cap bs → W.ownsRow 0 76 2 (.slice aa an ac) an (ys.flatMap ocEx) → W.cell? ⟨w.heap.size + 1,0,none⟩ = some (.slice aa an ac) → Calls Tryz.prog 187 #[.pointer (some ⟨R,0,none⟩),.string nm,.int .i64 32,.func (.func 124) #[] #[.pointer (some ⟨w.heap.size + 1,0,none⟩)]] W (Throws R g x W)) :
  Calls Tryz.prog 95 #[cW R,.agg #[.string nm,.int .i64 fn],.slice aa an ac,.int .i64 nf] w (Throws R g x w):=by
 have hmt:=meth_text
 have hct:=enter323
 obtain ⟨B0,z0,x0,x1,x2⟩:=w149_facts w nm fn aa an ac
 obtain ⟨a0,a1,_,_⟩:=two_cells x0
 have HW : ((w.alloc (.cells #[.string nm,.int .i64 fn] 76)).alloc (.cells #[.slice aa an ac] 34)).alloc (.cells #[.string ⟨#[]⟩,.int .i64 0] 76) = W149 w nm fn aa an ac:=rfl
 generalize W149 w nm fn aa an ac = W1 at *
 have HT:=hid (ht W1 (h.later B0) (ownS_keep hrow (fun B hB => B0.block B (lt_of_ownS hrow hB))) x1)
 have BW:=hid B0
 clear ht h B0 hrow
 go_enter Tryz.func95,Tryz.ntmps95
 go_wp2_with fail
 refine HT.out.mono ?_
 rintro e w2 ⟨⟨q,rfl⟩,hk⟩
 exact ⟨rfl,⟨q,rfl⟩,(kept_of BW.out).trans hk⟩
theorem exp149_yes (h : Wr w R g cap bs) (hb : bs.length + 200 ≤ 1099511627776) (hl : ys.length = an) (han : an ≤ 100000) (hrow : w.ownsRow 0 76 2 (.slice aa an ac) an (ys.flatMap ocEx)) (hne : ∀ b,aa = some b → b.block ≠ R ∧ b.block ≠ g)
  (hf0 : -9223372036854775808 ≤ fn) (hf1 : fn < 9223372036854775808) (hnf0 : 0 ≤ nf) (hnf : nf < 9223372036854775808) (hx : chkEx nf ys (nm,fn) = 0) :
  Calls Tryz.prog 95 #[cW R,.agg #[.string nm,.int .i64 fn],.slice aa an ac,.int .i64 nf] w (Puts R g bs (encEx (nm,fn)) (.agg #[.string nm,.int .i64 fn]) w):=by
 have hx' : nm.size ≤ 32 ∧ isNm nm = true ∧ badOrd ys nm = false ∧ 0 ≤ fn ∧ fn < nf:=by
  unfold chkEx chkIdx at hx
  simp only at hx
  split at hx
  ·cases hx
  ·split at hx
   ·cases hx
   ·split at hx
    ·cases hx
    ·split at hx
     ·cases hx
     ·refine ⟨by omega,by simp_all,by simp_all,by omega,by omega⟩
 obtain ⟨s1,n1,o1,f0,f1⟩:=hx'
 clear hx
 have hmt:=meth_text
 have hct:=enter323
 obtain ⟨B0,z0,x0,x1,x2⟩:=w149_facts w nm fn aa an ac
 obtain ⟨a0,a1,_,_⟩:=two_cells x0
 have HW : ((w.alloc (.cells #[.string nm,.int .i64 fn] 76)).alloc (.cells #[.slice aa an ac] 34)).alloc (.cells #[.string ⟨#[]⟩,.int .i64 0] 76) = W149 w nm fn aa an ac:=rfl
 have hRl:=h.lt
 have hgl:=h.g_lt
 have u1:=encT_le nm 32 s1
 generalize W149 w nm fn aa an ac = W1 at *
 have HT:=hid (text323_yes R g cap bs nm 32 124 #[.pointer (some ⟨w.heap.size + 1,0,none⟩)] W1 (h.later B0) (by omega) (by omega) (by omega) (fun _ _ => rfl) (ask199_yes nm _ (w.heap.size + 1) aa an ac ys W1 (by omega) n1 hl han (ownS_keep hrow (fun B hB => B0.block B (lt_of_ownS hrow hB))) o1 x1))
 have BW:=hid B0
 clear h B0 hrow
 go_enter Tryz.func95,Tryz.ntmps95
 go_wp2_with fail
 refine HT.out.mono ?_
 rintro e w2 ⟨rfl,g1,cap1,hw2,hs2⟩
 have y0:=(hs2.block (b:=w.heap.size) (by omega) (by omega) (by omega)).trans x0
 have y2:=(hs2.block (b:=w.heap.size + 1 + 1) (by omega) (by omega) (by omega)).trans x2
 have n2 : w.heap.size + 1 + 1 ≠ g1:=hs2.ne (by omega) (by omega)
 obtain ⟨b0,b1,_,_⟩:=two_cells y0
 have S2:=hid ((Stp.of_below BW.out).trans hs2)
 have z2:=hs2.size
 have HX:=hid (index136_yes R g1 cap1 (bs ++ encT nm) fn nf w2 hw2 (by simp; omega) f0 f1 hnf)
 clear hs2 HT hw2 x0 x1 x2 a0 a1 hmt hct HW
 go_wp2_with fail
 refine HX.out.mono ?_
 rintro e w3 ⟨rfl,g2,cap2,hw3,hs3⟩
 have q2:=(hs3.block (b:=w.heap.size + 1 + 1) (by omega) (by omega) n2).trans y2
 have n3 : w.heap.size + 1 + 1 ≠ g2:=hs3.ne (by omega) n2
 obtain ⟨c0,c1,c2,c3⟩:=two_cells q2
 have W3:=hid hw3
 have S3:=hid (S2.out.trans hs3)
 clear hw3 hs3 HX y0 y2 b0 b1
 go_wp2_with fail
 refine bodyPost_ret (v:=.agg #[.string nm,.int .i64 fn]) ?_ rfl ⟨rfl,g2,cap2,?_,?_⟩
 ·rw [results_cell1 rfl]
  go_simp
 ·have:=(W3.out.set (b:=w.heap.size + 1 + 1) (o:=0) (v:=.string nm) (by omega) n3).set (b:=w.heap.size + 1 + 1) (o:=1) (v:=.int .i64 fn) (by omega) n3
  simpa [encEx,List.append_assoc] using this
 ·exact (S3.out.set (by omega)).set (by omega)
theorem exp149_30 (h : Wr w R g cap bs) (hb : bs.length + 200 ≤ 1099511627776) (hl : ys.length = an) (han : an ≤ 100000) (hrow : w.ownsRow 0 76 2 (.slice aa an ac) an (ys.flatMap ocEx))
  (hf0 : -9223372036854775808 ≤ fn) (hf1 : fn < 9223372036854775808) (hnf0 : 0 ≤ nf) (hnf : nf < 9223372036854775808) (s1 : nm.size ≤ 32) (n1 : isNm nm = true) (o1 : badOrd ys nm = false) (hbad : fn < 0 ∨ nf ≤ fn) :
  Calls Tryz.prog 95 #[cW R,.agg #[.string nm,.int .i64 fn],.slice aa an ac,.int .i64 nf] w (Throws R g 30 w):=by
 have hmt:=meth_text
 have hct:=enter323
 obtain ⟨B0,z0,x0,x1,x2⟩:=w149_facts w nm fn aa an ac
 obtain ⟨a0,a1,_,_⟩:=two_cells x0
 have HW : ((w.alloc (.cells #[.string nm,.int .i64 fn] 76)).alloc (.cells #[.slice aa an ac] 34)).alloc (.cells #[.string ⟨#[]⟩,.int .i64 0] 76) = W149 w nm fn aa an ac:=rfl
 have hRl:=h.lt
 have hgl:=h.g_lt
 generalize W149 w nm fn aa an ac = W1 at *
 have HT:=hid (text323_yes R g cap bs nm 32 124 #[.pointer (some ⟨w.heap.size + 1,0,none⟩)] W1 (h.later B0) (by omega) (by omega) (by omega) (fun _ _ => rfl) (ask199_yes nm _ (w.heap.size + 1) aa an ac ys W1 (by omega) n1 hl han (ownS_keep hrow (fun B hB => B0.block B (lt_of_ownS hrow hB))) o1 x1))
 have BW:=hid B0
 clear h B0 hrow
 go_enter Tryz.func95,Tryz.ntmps95
 go_wp2_with fail
 refine HT.out.mono ?_
 rintro e w2 ⟨rfl,g1,cap1,hw2,hs2⟩
 have y0:=(hs2.block (b:=w.heap.size) (by omega) (by omega) (by omega)).trans x0
 obtain ⟨b0,b1,_,_⟩:=two_cells y0
 have S2:=hid ((Stp.of_below BW.out).trans hs2)
 have HX:=hid (index136_no R g1 cap1 _ fn nf w2 hw2 hf0 hf1 hbad hnf0 hnf)
 clear hs2 HT hw2 x0 x1 x2 a0 a1 hmt hct HW
 go_wp2_with fail
 refine HX.out.mono ?_
 rintro e w3 ⟨⟨q,rfl⟩,hk⟩
 exact ⟨rfl,⟨q,rfl⟩,S2.out.throw hk⟩
theorem exp149_no (h : Wr w R g cap bs) (hb : bs.length + 200 ≤ 1099511627776) (hs : nm.size ≤ 1000000 ∨ 32 < nm.size) (hl : ys.length = an) (han : an ≤ 100000) (hrow : w.ownsRow 0 76 2 (.slice aa an ac) an (ys.flatMap ocEx))
  (hf0 : -9223372036854775808 ≤ fn) (hf1 : fn < 9223372036854775808) (hnf0 : 0 ≤ nf) (hnf : nf < 9223372036854775808) (hx : chkEx nf ys (nm,fn) ≠ 0) :
  Calls Tryz.prog 95 #[cW R,.agg #[.string nm,.int .i64 fn],.slice aa an ac,.int .i64 nf] w (Throws R g (chkEx nf ys (nm,fn)) w):=by
 unfold chkEx chkIdx at hx ⊢
 simp only at hx ⊢
 by_cases s1 : 32 < nm.size
 ·rw [if_pos s1]
  exact exp149_t R g cap bs nm fn nf aa an ac ys w h 13 hrow (fun W hW _ _ => text323_long R g cap bs nm 32 _ W hW (by omega))
 rw [if_neg s1] at hx ⊢
 by_cases n1 : isNm nm = false
 ·rw [if_pos n1]
  exact exp149_t R g cap bs nm fn nf aa an ac ys w h 23 hrow (fun W hW _ _ => text323_no R g cap bs nm 32 124 _ 23 W hW (by omega) (fun _ _ => rfl) (ask199_23 nm _ _ W (by omega) n1))
 rw [if_neg n1] at hx ⊢
 have n1' : isNm nm = true:=by simpa using n1
 by_cases o1 : badOrd ys nm = true
 ·rw [if_pos o1]
  exact exp149_t R g cap bs nm fn nf aa an ac ys w h 18 hrow (fun W hW hr hc => text323_no R g cap bs nm 32 124 _ 18 W hW (by omega) (fun _ _ => rfl) (ask199_18 nm _ _ aa an ac ys W (by omega) n1' hl han hr o1 hc))
 rw [if_neg o1] at hx ⊢
 have o1' : badOrd ys nm = false:=by simpa using o1
 by_cases f1 : fn < 0 ∨ nf ≤ fn
 ·rw [if_pos f1]
  exact exp149_30 R g cap bs nm fn nf aa an ac ys w h hb hl han hrow hf0 hf1 hnf0 hnf (by omega) n1' o1' f1
 ·rw [if_neg f1] at hx; exact absurd rfl hx
end
end Go.Proofs.YtmgjhfookhaajaaGreatDoor
