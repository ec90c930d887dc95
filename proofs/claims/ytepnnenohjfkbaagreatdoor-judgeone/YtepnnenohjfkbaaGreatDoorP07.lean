/-
  Texts Lgl Wg.
-/
import Derived.Test.YtepnnenohjfkbaaGreatDoorP04
import Derived.Test.YtepnnenohjfkbaaGreatDoorP05
set_option linter.unusedVariables false
set_option maxRecDepth 100000
set_option maxHeartbeats 16000000
namespace Go.Proofs.YtepnnenohjfkbaaGreatDoor
open Go.RowKit
theorem wI : ∃ i,Tryz.prog.info? 141 = some i ∧ i.zero = some (.agg #[.int .u8 0,.bool false,.int .u64 0]) ∧ i.size = 3 ∧ i.bytes = 16:=by
 have h : (Tryz.prog.info? 141).map (fun i => (i.zero,i.size,i.bytes)) = some (some (.agg #[.int .u8 0,.bool false,.int .u64 0]),3,16):=by kernel_rfl
 cases hi : Tryz.prog.info? 141 with
 | none => rw [hi] at h; cases h
 | some i => rw [hi] at h; simp at h; exact ⟨i,rfl,h.1,h.2.1,h.2.2⟩
def ic (y : Gl) : List Value:=[.int .u8 y.1,.bool y.2.1,.int .u64 y.2.2]
abbrev AU (x : Gl) : Value:=.agg #[.int .u8 x.1,.bool x.2.1,.int .u64 x.2.2]
abbrev Bt (y : Gl) : Value:=.agg #[.int .u8 y.1,.bool y.2.1,.int .u64 y.2.2]
def jW (w : World) (a : Option Addr) (n : Nat) (xs : List Gl) : Prop :=
 xs.length = n ∧ (n = 0 ∨ ∃ b off,a = some ⟨b,off,none⟩ ∧ ∀ (j : Nat) x,xs[j]? = some x → w.cell? ⟨b,off + j * 3,none⟩ = some (.int .u8 x.1) ∧ w.cell? ⟨b,off + j * 3 + 1,none⟩ = some (.bool x.2.1) ∧ w.cell? ⟨b,off + j * 3 + 2,none⟩ = some (.int .u64 x.2.2))
theorem jW.kept {S : Nat → Prop} {w w' : World} {a : Option Addr} {n : Nat} {xs : List Gl} (h : jW w a n xs) (hk : Kept S w w') (hS : ∀ b off c,a = some ⟨b,off,c⟩ → ¬ S b) : jW w' a n xs:=by
 refine ⟨h.1,h.2.imp id ?_⟩;rintro ⟨b,off,ha,hc⟩
 refine ⟨b,off,ha,fun j x hj => ?_⟩
 have:=hc j x hj
 exact ⟨hk.cell this.1 (hS _ _ _ ha),hk.cell this.2.1 (hS _ _ _ ha),hk.cell this.2.2 (hS _ _ _ ha)⟩
theorem jA (w : World) (y : Gl) : ∀ j u,(ic y)[j]? = some u → (w.alloc (.cells #[.int .u8 y.1,.bool y.2.1,.int .u64 y.2.2] 141)).cell? ((⟨w.heap.size,0,none⟩ : Addr).add j) = some u:=by
 intro j u hj;have hlt:=au hj;have hl : (ic y).length = 3:=rfl;rw [hl] at hlt
 have hadd : (⟨w.heap.size,0,none⟩ : Addr).add j = ⟨w.heap.size,j,none⟩:=by unfold Addr.add; split <;> simp_all
 rw [hadd];have hb:=(MapKept.heap_alloc w (.cells #[.int .u8 y.1,.bool y.2.1,.int .u64 y.2.2] 141)).1
 simp only [World.cell?,hb]
 simpa [ic] using hj
theorem ju (y : Gl) : ∀ u ∈ ic y,u.oneCell' = true:=by
 intro u hu
 simp [ic] at hu
 rcases hu with rfl | rfl | rfl <;> rfl
def ri (R g : Nat) (w : World) (K : Nat) (cs : Array Value) (bs : List Int) (n : Nat) (xs : List Gl) (enc : Gl → List Int) (Ok : Gl → Gl → Prop) (j : Nat) (x : Gl) : Prop :=
 ∀ (ys : List Gl) (W : World) (g1 cap1 : Nat) (aa : Option Addr) (ac : Nat),ys.length = j → (∀ (i : Nat) y,ys[i]? = some y → ∃ x',xs[i]? = some x' ∧ Ok x' y) → Stp R g g1 w W → Wr W R g1 cap1 (bs ++ am n ++ (xs.take j).flatMap enc) →
  W.ownsRow 0 141 3 (.slice aa j ac) j (ys.flatMap ic) → (∀ b,aa = some b → w.heap.size ≤ b.block ∧ b.block ≠ g1) →
  Calls Tryz.prog K (#[AU x,.slice aa j ac] ++ cs) W (fun e w' => ∃ y,e = .returned (Bt y) ∧ Ok x y ∧ ∃ g' cap',Wr w' R g' cap' (bs ++ am n ++ (xs.take j).flatMap enc ++ enc x) ∧ Stp R g1 g' W w')
def xw (R g : Nat) (w : World) (K : Nat) (cs : Array Value) (bs : List Int) (n : Nat) (xs : List Gl) (enc : Gl → List Int) (Ok : Gl → Gl → Prop) (j : Nat) (x : Gl) (er : Int) : Prop :=
 ∀ (ys : List Gl) (W : World) (g1 cap1 : Nat) (aa : Option Addr) (ac : Nat),ys.length = j → (∀ (i : Nat) y,ys[i]? = some y → ∃ x',xs[i]? = some x' ∧ Ok x' y) → Stp R g g1 w W → Wr W R g1 cap1 (bs ++ am n ++ (xs.take j).flatMap enc) →
  W.ownsRow 0 141 3 (.slice aa j ac) j (ys.flatMap ic) → (∀ b,aa = some b → w.heap.size ≤ b.block ∧ b.block ≠ g1) →
  Calls Tryz.prog K (#[AU x,.slice aa j ac] ++ cs) W (aG R g1 er W)
theorem pX (R g cap : Nat) (bs : List Int) (ha : Option Addr) (n hc : Nat) (most : Int) (K : Nat) (cs : Array Value) (w : World) (xs : List Gl) (enc : Gl → List Int) (Ok : Gl → Gl → Prop) (M : Nat)
  (h : Wr w R g cap bs) (hn : n ≤ 100000) (hm : (n : Int) ≤ most) (hmem : jW w ha n xs) (hne : ∀ b off c,ha = some ⟨b,off,c⟩ → b ≠ R ∧ b ≠ g)
  (hK : ∀ args w,(callFunc K args).run Tryz.prog w = .ok (.enter K args) w) (hlen : ∀ (j : Nat) x,xs[j]? = some x → (enc x).length ≤ M) (hM : M ≤ 1000000) (hb : bs.length + 200000000000 ≤ 1099511627776)
  (heach : ∀ (j : Nat) x,xs[j]? = some x → ri R g w K cs bs n xs enc Ok j x) :
  Calls Tryz.prog 119 #[cW R,.slice ha n hc,.int .i64 most,.func (.func K) #[] cs] w fun e w' => ∃ (aa : Option Addr) (ac : Nat) (ys : List Gl),e = .returned (.slice aa n ac) ∧ ys.length = n ∧ (∀ (i : Nat) y,ys[i]? = some y → ∃ x,xs[i]? = some x ∧ Ok x y) ∧
   w'.ownsRow 0 141 3 (.slice aa n ac) n (ys.flatMap ic) ∧ ∃ g' cap',(∀ b,aa = some b → w.heap.size ≤ b.block ∧ b.block ≠ g') ∧ Wr w' R g' cap' (bs ++ am n ++ xs.flatMap enc) ∧ Stp R g g' w w':=by
 have hmc:=aQ;have hcc:=aX
 have HC:=hid (aU R g cap bs n most w h hm (by omega) (by omega))
 have hRl:=h.lt;have hgl:=h.g_lt;have hxl:=hmem.1;have HM:=hid hmem;have HNE:=hid hne;have HE:=hid heach;obtain ⟨i0,hi,hz0,hz1,hz2⟩:=wI;clear h hmem heach hne
 go_enter Tryz.func119,Tryz.ntmps119
 go_wp2_with fail;refine HC.out.mono ?_;rintro e w2 ⟨rfl,g1,cap1,hw2,hs2⟩;have W2:=hid hw2;have S2:=hid hs2;clear hw2 hs2 HC hmc hcc;go_wp2_with fail
 go_loopw [9,17] (fun o i wr => ∃ (j : Nat) (ys : List Gl) (aa : Option Addr) (ac g1 cap1 : Nat),j ≤ n ∧ i = .int .i64 j ∧ o = .slice aa j ac ∧ ys.length = j ∧ (∀ (i : Nat) y,ys[i]? = some y → ∃ x,xs[i]? = some x ∧ Ok x y) ∧
   wr.ownsRow 0 141 3 (.slice aa j ac) j (ys.flatMap ic) ∧ (∀ b,aa = some b → w.heap.size ≤ b.block ∧ b.block ≠ g1) ∧ Wr wr R g1 cap1 (bs ++ am n ++ (xs.take j).flatMap enc) ∧ Stp R g g1 w wr) (fun _ i _ => n - (intOf i).toNat)
 case atStart => exact ⟨0,[],none,0,g1,cap1,by omega,rfl,rfl,rfl,(fun i y h => by simp at h),World.ownsRow_nil _ _ _ _,(fun b h => by cases h),by simpa using W2.out,S2.out⟩
 case round =>
  obtain ⟨j,ys,aa,ac,g3,bp,hj,rfl,rfl,hyl,hys,hrow,hab,hwr,hst⟩:=hrel;have HY:=hid hys;have HRW:=hid hrow;have HAB:=hid hab;have HWR:=hid hwr;have HST:=hid hst;clear hys hrow hab hwr hst W2 S2
  by_cases hlt : j < n
  ·obtain ⟨x,hx⟩ : ∃ x,xs[j]? = some x:=⟨_,List.getElem?_eq_getElem (by omega)⟩
   obtain ⟨b,off,rfl,hcell⟩ : ∃ b off,ha = some ⟨b,off,none⟩ ∧ ∀ (j : Nat) x,xs[j]? = some x → wr.cell? ⟨b,off + j * 3,none⟩ = some (.int .u8 x.1) ∧ wr.cell? ⟨b,off + j * 3 + 1,none⟩ = some (.bool x.2.1) ∧ wr.cell? ⟨b,off + j * 3 + 2,none⟩ = some (.int .u64 x.2.2):=by
    rcases (HM.out.kept HST.out.k (fun b off c h => by have:=HNE.out b off c h; simp; omega)).2 with h0 | h
    ·omega
    ·exact h
   have hcj:=hcell j x hx;have hbl:=block_lt_of_cell hcj.1;clear hcell;obtain ⟨v0,v1,v2⟩:=hcj;have BN:=hid (ag wr (.cells #[.int .u8 x.1,.bool x.2.1,.int .u64 x.2.2] 141))
   have HC1:=hid (HE.out j x hx ys (wr.alloc (.cells #[.int .u8 x.1,.bool x.2.1,.int .u64 x.2.2] 141)) g3 bp aa ac hyl HY.out (HST.out.trans (Stp.of_below BN.out)) (HWR.out.later BN.out) (ar HRW.out (fun B hB => BN.out.block B (ak HRW.out hB))) HAB.out)
   go_wp2_with fail;generalize wr.alloc (.cells #[.int .u8 x.1,.bool x.2.1,.int .u64 x.2.2] 141) = W at *;have hszW:=BN.out.size;refine HC1.out.mono ?_;rintro e w5 ⟨y,rfl,hok,g4,cap4,hw5,hs5⟩;have hgr : g3 < wr.heap.size:=HWR.out.g_lt;have hRr : R < wr.heap.size:=HWR.out.lt
   have row5 : w5.ownsRow 0 141 3 (.slice aa j ac) j (ys.flatMap ic):=ar HRW.out (fun B hB => by
    have h1:=ak HRW.out hB;have h2 : ∃ a,aa = some a ∧ a.block = B:=bK hB;obtain ⟨a,ha1,ha2⟩:=h2;have h3:=HAB.out a ha1;have h4:=HST.out.size
    exact (hs5.block (b:=B) (by omega) (by omega) (by omega)).trans (BN.out.block B h1))
   have gg4:=hw5.g_lt
   have hab5 : ∀ b,aa = some b → b.block ≠ g4 ∧ b.block < w5.heap.size:=fun a ha1 => by
    have h3:=HAB.out a ha1;have h1 : a.block < wr.heap.size:=ak HRW.out (bk HRW.out ha1)
    exact ⟨hs5.ne (by omega) h3.2,Nat.lt_of_lt_of_le h1 (Nat.le_trans hszW hs5.size)⟩
   have W5:=hid hw5;have S5:=hid (HST.out.trans ((Stp.of_below BN.out).trans hs5));have O5:=hid hok;have BN5:=hid (ag w5 (.cells #[.int .u8 y.1,.bool y.2.1,.int .u64 y.2.2] 141))
   have R6:=hid (ar (w':=w5.alloc (.cells #[.int .u8 y.1,.bool y.2.1,.int .u64 y.2.2] 141)) row5 (fun B hB => BN5.out.block B (ak row5 hB)))
   have HAB5:=hid hab5;have NC:=hid (jA w5 y)
   have hz6 : (w5.alloc (.cells #[.int .u8 y.1,.bool y.2.1,.int .u64 y.2.2] 141)).heap.size = w5.heap.size + 1:=by simp
   clear hw5 hs5 row5 hab5 HC1 hok
   go_wp2_with (at_builtin; (refine bC _ rfl (.tmp 28) (.tmp 33) 24 rfl 141 i0 _ 3 16 Tryz.underlying24 hi hz0 hz1 hz2 rfl (by decide) _ j _ rfl R6.out ⟨w5.heap.size,0,none⟩ 1 1 (ic y) rfl rfl NC.out (ju y) (by omega) (by unfold maxLen; omega) (by omega) ?_; intro B cap7 w7 hrow7 hor7; have R7:=hid hrow7; have OR7:=hid hor7; clear hrow7 hor7))
   generalize w5.alloc (.cells #[.int .u8 y.1,.bool y.2.1,.int .u64 y.2.2] 141) = W6 at *
   have hBn : w.heap.size ≤ B ∧ B ≠ g4 ∧ Kept (fun k => k = B) W6 w7:=by
    rcases OR7.out with ⟨h1,h2⟩ | ⟨h1,h2⟩
    ·have h1' : aa = some ⟨B,0,none⟩:=(Value.slice.inj h1).1;exact ⟨(HAB.out _ h1').1,(HAB5.out _ h1').1,h2⟩
    ·have:=S5.out.size
     exact ⟨by omega,by omega,h2.mono (fun k hk => hk.elim)⟩
   have hRw:=S5.out.size
   go_roundw
   ·refine ⟨j + 1,ys ++ [y],some ⟨B,0,none⟩,cap7,g4,cap4,by omega,rfl,rfl,by simp [hyl],?_,?_,?_,?_,?_⟩
    ·intro i y' hi'
     by_cases hij : i < ys.length
     ·rw [List.getElem?_append_left hij] at hi';exact HY.out i y' hi'
     ·rw [List.getElem?_append_right (by omega)] at hi'
      have hi0 : i - ys.length = 0:=by
       rcases Nat.eq_zero_or_pos (i - ys.length) with h | h
       ·exact h
       ·rw [List.getElem?_eq_none (by simp; omega)] at hi'; cases hi'
      rw [hi0] at hi'
      simp at hi'
      subst hi'
      obtain rfl : i = j:=by omega
      exact ⟨x,hx,O5.out⟩
    ·have:=R7.out
     simpa [cy] using this
    ·intro b' hb'
     simp at hb'
     subst hb';exact ⟨hBn.1,hBn.2.1⟩
    ·have:=(W5.out.later BN5.out).kept hBn.2.2 (by omega) (Ne.symm hBn.2.1)
     rw [bo enc hx]
     simpa [List.append_assoc] using this
    ·exact ⟨(S5.out.k.trans (aB BN5.out)).then hBn.2.2 (fun k hk hkB => by have:=hBn.1; omega),S5.out.m⟩
   ·simp [intOf]; omega
  ·obtain rfl : j = n:=by omega
   have hxs : xs.take j = xs:=List.take_of_length_le (by omega)
   go_wp2_with fail;go_ret;refine ⟨aa,ac,ys,rfl,hyl,HY.out,HRW.out,g3,bp,HAB.out,?_,HST.out⟩;rw [← hxs];exact HWR.out
theorem ra (R g cap : Nat) (bs : List Int) (ha : Option Addr) (n hc : Nat) (most : Int) (K : Nat) (cs : Array Value) (w : World) (xs : List Gl) (enc : Gl → List Int) (Ok : Gl → Gl → Prop) (M : Nat)
  (h : Wr w R g cap bs) (hn : n ≤ 100000) (hm : (n : Int) ≤ most) (hmem : jW w ha n xs) (hne : ∀ b off c,ha = some ⟨b,off,c⟩ → b ≠ R ∧ b ≠ g)
  (hK : ∀ args w,(callFunc K args).run Tryz.prog w = .ok (.enter K args) w) (hlen : ∀ (j : Nat) x,xs[j]? = some x → (enc x).length ≤ M) (hM : M ≤ 1000000) (hb : bs.length + 200000000000 ≤ 1099511627776)
  (k : Nat) (xk : Gl) (er : Int) (hk : xs[k]? = some xk) (heach : ∀ (j : Nat) x,xs[j]? = some x → j < k → ri R g w K cs bs n xs enc Ok j x) (hno : xw R g w K cs bs n xs enc Ok k xk er) :
  Calls Tryz.prog 119 #[cW R,.slice ha n hc,.int .i64 most,.func (.func K) #[] cs] w (aG R g er w):=by
 have hkn:=au hk;have hmc:=aQ;have hcc:=aX
 have HC:=hid (aU R g cap bs n most w h hm (by omega) (by omega))
 have hRl:=h.lt;have hgl:=h.g_lt;have hxl:=hmem.1;have HM:=hid hmem;have HNE:=hid hne;have HE:=hid heach;have HN:=hid hno;obtain ⟨i0,hi,hz0,hz1,hz2⟩:=wI;clear h hmem heach hne hno
 go_enter Tryz.func119,Tryz.ntmps119
 go_wp2_with fail;refine HC.out.mono ?_;rintro e w2 ⟨rfl,g1,cap1,hw2,hs2⟩;have W2:=hid hw2;have S2:=hid hs2;clear hw2 hs2 HC hmc hcc;go_wp2_with fail
 go_loopw [9,17] (fun o i wr => ∃ (j : Nat) (ys : List Gl) (aa : Option Addr) (ac g1 cap1 : Nat),j ≤ k ∧ i = .int .i64 j ∧ o = .slice aa j ac ∧ ys.length = j ∧ (∀ (i : Nat) y,ys[i]? = some y → ∃ x,xs[i]? = some x ∧ Ok x y) ∧
   wr.ownsRow 0 141 3 (.slice aa j ac) j (ys.flatMap ic) ∧ (∀ b,aa = some b → w.heap.size ≤ b.block ∧ b.block ≠ g1) ∧ Wr wr R g1 cap1 (bs ++ am n ++ (xs.take j).flatMap enc) ∧ Stp R g g1 w wr) (fun _ i _ => n - (intOf i).toNat)
 case atStart => exact ⟨0,[],none,0,g1,cap1,by omega,rfl,rfl,rfl,(fun i y h => by simp at h),World.ownsRow_nil _ _ _ _,(fun b h => by cases h),by simpa using W2.out,S2.out⟩
 case round =>
  obtain ⟨j,ys,aa,ac,g3,bp,hj,rfl,rfl,hyl,hys,hrow,hab,hwr,hst⟩:=hrel;have HY:=hid hys;have HRW:=hid hrow;have HAB:=hid hab;have HWR:=hid hwr;have HST:=hid hst;clear hys hrow hab hwr hst W2 S2
  have hlt : j < n:=by omega
  ·obtain ⟨x,hx⟩ : ∃ x,xs[j]? = some x:=⟨_,List.getElem?_eq_getElem (by omega)⟩
   obtain ⟨b,off,rfl,hcell⟩ : ∃ b off,ha = some ⟨b,off,none⟩ ∧ ∀ (j : Nat) x,xs[j]? = some x → wr.cell? ⟨b,off + j * 3,none⟩ = some (.int .u8 x.1) ∧ wr.cell? ⟨b,off + j * 3 + 1,none⟩ = some (.bool x.2.1) ∧ wr.cell? ⟨b,off + j * 3 + 2,none⟩ = some (.int .u64 x.2.2):=by
    rcases (HM.out.kept HST.out.k (fun b off c h => by have:=HNE.out b off c h; simp; omega)).2 with h0 | h
    ·omega
    ·exact h
   have hcj:=hcell j x hx;have hbl:=block_lt_of_cell hcj.1;clear hcell;obtain ⟨v0,v1,v2⟩:=hcj;have BN:=hid (ag wr (.cells #[.int .u8 x.1,.bool x.2.1,.int .u64 x.2.2] 141))
   by_cases hjk : j < k
   ·skip
    have HC1:=hid (HE.out j x hx hjk ys (wr.alloc (.cells #[.int .u8 x.1,.bool x.2.1,.int .u64 x.2.2] 141)) g3 bp aa ac hyl HY.out (HST.out.trans (Stp.of_below BN.out)) (HWR.out.later BN.out) (ar HRW.out (fun B hB => BN.out.block B (ak HRW.out hB))) HAB.out)
    go_wp2_with fail;generalize wr.alloc (.cells #[.int .u8 x.1,.bool x.2.1,.int .u64 x.2.2] 141) = W at *;have hszW:=BN.out.size;refine HC1.out.mono ?_;rintro e w5 ⟨y,rfl,hok,g4,cap4,hw5,hs5⟩;have hgr : g3 < wr.heap.size:=HWR.out.g_lt;have hRr : R < wr.heap.size:=HWR.out.lt
    have row5 : w5.ownsRow 0 141 3 (.slice aa j ac) j (ys.flatMap ic):=ar HRW.out (fun B hB => by
     have h1:=ak HRW.out hB;have h2 : ∃ a,aa = some a ∧ a.block = B:=bK hB;obtain ⟨a,ha1,ha2⟩:=h2;have h3:=HAB.out a ha1;have h4:=HST.out.size
     exact (hs5.block (b:=B) (by omega) (by omega) (by omega)).trans (BN.out.block B h1))
    have gg4:=hw5.g_lt
    have hab5 : ∀ b,aa = some b → b.block ≠ g4 ∧ b.block < w5.heap.size:=fun a ha1 => by
     have h3:=HAB.out a ha1;have h1 : a.block < wr.heap.size:=ak HRW.out (bk HRW.out ha1)
     exact ⟨hs5.ne (by omega) h3.2,Nat.lt_of_lt_of_le h1 (Nat.le_trans hszW hs5.size)⟩
    have W5:=hid hw5;have S5:=hid (HST.out.trans ((Stp.of_below BN.out).trans hs5));have O5:=hid hok;have BN5:=hid (ag w5 (.cells #[.int .u8 y.1,.bool y.2.1,.int .u64 y.2.2] 141))
    have R6:=hid (ar (w':=w5.alloc (.cells #[.int .u8 y.1,.bool y.2.1,.int .u64 y.2.2] 141)) row5 (fun B hB => BN5.out.block B (ak row5 hB)))
    have HAB5:=hid hab5;have NC:=hid (jA w5 y)
    have hz6 : (w5.alloc (.cells #[.int .u8 y.1,.bool y.2.1,.int .u64 y.2.2] 141)).heap.size = w5.heap.size + 1:=by simp
    clear hw5 hs5 row5 hab5 HC1 hok
    go_wp2_with (at_builtin; (refine bC _ rfl (.tmp 28) (.tmp 33) 24 rfl 141 i0 _ 3 16 Tryz.underlying24 hi hz0 hz1 hz2 rfl (by decide) _ j _ rfl R6.out ⟨w5.heap.size,0,none⟩ 1 1 (ic y) rfl rfl NC.out (ju y) (by omega) (by unfold maxLen; omega) (by omega) ?_; intro B cap7 w7 hrow7 hor7; have R7:=hid hrow7; have OR7:=hid hor7; clear hrow7 hor7))
    generalize w5.alloc (.cells #[.int .u8 y.1,.bool y.2.1,.int .u64 y.2.2] 141) = W6 at *
    have hBn : w.heap.size ≤ B ∧ B ≠ g4 ∧ Kept (fun k => k = B) W6 w7:=by
     rcases OR7.out with ⟨h1,h2⟩ | ⟨h1,h2⟩
     ·have h1' : aa = some ⟨B,0,none⟩:=(Value.slice.inj h1).1;exact ⟨(HAB.out _ h1').1,(HAB5.out _ h1').1,h2⟩
     ·have:=S5.out.size
      exact ⟨by omega,by omega,h2.mono (fun k hk => hk.elim)⟩
    have hRw:=S5.out.size
    go_roundw
    ·refine ⟨j + 1,ys ++ [y],some ⟨B,0,none⟩,cap7,g4,cap4,by omega,rfl,rfl,by simp [hyl],?_,?_,?_,?_,?_⟩
     ·intro i y' hi'
      by_cases hij : i < ys.length
      ·rw [List.getElem?_append_left hij] at hi';exact HY.out i y' hi'
      ·rw [List.getElem?_append_right (by omega)] at hi'
       have hi0 : i - ys.length = 0:=by
        rcases Nat.eq_zero_or_pos (i - ys.length) with h | h
        ·exact h
        ·rw [List.getElem?_eq_none (by simp; omega)] at hi'; cases hi'
       rw [hi0] at hi'
       simp at hi'
       subst hi'
       obtain rfl : i = j:=by omega
       exact ⟨x,hx,O5.out⟩
     ·have:=R7.out
      simpa [cy] using this
     ·intro b' hb'
      simp at hb'
      subst hb';exact ⟨hBn.1,hBn.2.1⟩
     ·have:=(W5.out.later BN5.out).kept hBn.2.2 (by omega) (Ne.symm hBn.2.1)
      rw [bo enc hx]
      simpa [List.append_assoc] using this
     ·exact ⟨(S5.out.k.trans (aB BN5.out)).then hBn.2.2 (fun k hk hkB => by have:=hBn.1; omega),S5.out.m⟩
    ·simp [intOf]; omega
   ·obtain rfl : j = k:=by omega
    obtain rfl : x = xk:=by rw [hx] at hk; simpa using hk
    have HC1:=hid (HN.out ys (wr.alloc (.cells #[.int .u8 x.1,.bool x.2.1,.int .u64 x.2.2] 141)) g3 bp aa ac hyl HY.out (HST.out.trans (Stp.of_below BN.out)) (HWR.out.later BN.out) (ar HRW.out (fun B hB => BN.out.block B (ak HRW.out hB))) HAB.out)
    go_wp2_with fail;refine HC1.out.mono ?_;rintro e w5 ⟨⟨p,rfl⟩,hk5⟩;exact ⟨rfl,⟨p,rfl⟩,(HST.out.trans (Stp.of_below BN.out)).throw hk5⟩
theorem nv (R g cap : Nat) (bs : List Int) (ha : Option Addr) (n hc : Nat) (most : Int) (f : Value) (w : World) (h : Wr w R g cap bs) (hm : most < (n : Int)) :
  Calls Tryz.prog 119 #[cW R,.slice ha n hc,.int .i64 most,f] w (aG R g 20 w):=by
 have hmc:=aQ;have hcc:=aX;have HC:=hid (cE R g cap bs n most w h hm);clear h
 go_enter Tryz.func119,Tryz.ntmps119
 go_wp2_with fail;refine HC.out.mono ?_;rintro e w2 ⟨⟨p,rfl⟩,hk⟩;exact ⟨rfl,⟨p,rfl⟩,hk⟩
theorem mB (b : Bool) (w : World) : Calls Tryz.prog 182 #[.bool b] w fun e w' => e = .returned (.int .u8 (if b then 1 else 0)) ∧ w' = w:=by
 cases b
 all_goals
  go_enter Tryz.func182,Tryz.ntmps182
  go_wp2_with fail;go_ret;exact ⟨rfl,rfl⟩
theorem k6 (v p : Int) (w : World) (h : isL v = true) : Calls Tryz.prog 180 #[.int .u8 v,.int .i64 p] w (gH w):=by
 have HL:=hid (eM v w);rw [h] at HL
 go_enter Tryz.func180,Tryz.ntmps180
 go_wp2_with fail;refine HL.out.mono ?_;rintro e w1 ⟨rfl,rfl⟩;clear HL;go_wp2_with fail;refine (aZ rfl).mono ?_;rintro e w1 ⟨rfl,rfl⟩;go_wp2_with fail;go_end0;exact ⟨rfl,Below.refl _ _⟩
theorem ul (v p : Int) (w : World) (h : isL v = false) : Calls Tryz.prog 180 #[.int .u8 v,.int .i64 p] w (gD 15 w):=by
 have HL:=hid (eM v w);rw [h] at HL
 go_enter Tryz.func180,Tryz.ntmps180
 go_wp2_with fail;refine HL.out.mono ?_;rintro e w1 ⟨rfl,rfl⟩;clear HL;go_wp2_with fail;refine (cA rfl).mono ?_;rintro e w1 ⟨rfl,rfl⟩;exact ⟨rfl,⟨_,rfl⟩,Below.refl _ _⟩
def bit (b : Bool) : Int:=if b then 1 else 0
theorem zi (w : World) : Calls Tryz.prog 182 #[.bool false] w fun e w' => e = .returned (.int .u8 0) ∧ w' = w:=mB false w
theorem yT (w : World) : Calls Tryz.prog 182 #[.bool true] w fun e w' => e = .returned (.int .u8 1) ∧ w' = w:=mB true w
theorem vs (p : Int) (w : World) : Calls Tryz.prog 183 #[.int .u8 0,.int .i64 p] w (gH w):=by
 have HF:=hid zi
 go_enter Tryz.func183,Tryz.ntmps183
 go_wp2_with (first | (go_at_call 182; refine (HF.out _).mono ?_; rintro e w' ⟨rfl,rfl⟩) | (go_at_call 77; refine (aZ rfl).mono ?_; rintro e w' ⟨rfl,rfl⟩))
 go_end0;exact ⟨rfl,Below.refl _ _⟩
theorem xa (p : Int) (w : World) : Calls Tryz.prog 183 #[.int .u8 1,.int .i64 p] w (gH w):=by
 have HF:=hid zi;have HT:=hid yT
 go_enter Tryz.func183,Tryz.ntmps183
 go_wp2_with fail;refine (HF.out _).mono ?_;rintro e w' ⟨rfl,rfl⟩
 go_wp2_with (first | (go_at_call 182; refine (HT.out _).mono ?_; rintro e w' ⟨rfl,rfl⟩) | (go_at_call 77; refine (aZ rfl).mono ?_; rintro e w' ⟨rfl,rfl⟩))
 go_end0;exact ⟨rfl,Below.refl _ _⟩
theorem ms (c v : Int) (h0 : 0 ≤ v) (h : v < 18446744073709551616) : -9223372036854775808 ≤ sgn c v ∧ sgn c v < 9223372036854775808:=by
 unfold sgn; split <;> split <;> (try split) <;> omega
theorem zO {v : Int} (h0 : 0 ≤ v) (h : v < 4294967296) : wrap64 (wrap32 v) = sgn 119 v:=by
 unfold sgn wrap64 wrap32;rw [if_pos rfl,if_pos h]
 split <;> omega
theorem AW {c v : Int} (hc : c ≠ 119) (h0 : 0 ≤ v) (h : v < 18446744073709551616) : wrap64 v = sgn c v:=by
 unfold sgn wrap64;rw [if_neg hc]
 split <;> omega
theorem jx (c v : Int) (mu : Bool) (w : World) (h0 : 0 ≤ v) (h1 : v < 18446744073709551616) : Calls Tryz.prog 184 #[.agg #[.int .u8 c,.bool mu,.int .u64 v]] w fun e w' => e = .returned (.int .i64 (sgn c v)) ∧ Below w.heap.size w w':=by
 have B1:=hid (ag w (.cells #[.int .u8 c,.bool mu,.int .u64 v] 141))
 by_cases hc : c = 119
 ·subst hc
  have HF:=hid (fun W => zM v 119 W)
  by_cases hv : v < 4294967296
  ·have hf : fE v 119 = true:=by simp [fE,hv]
   rw [hf] at HF;have HS:=hid (zO h0 hv)
   go_enter Tryz.func184,Tryz.ntmps184
   go_wp2_with (first | (go_at_call 243; refine (HF.out _).mono ?_; rintro e w' ⟨rfl,rfl⟩))
   go_ret
   exact ⟨congrArg (fun x => Ending.returned (.int .i64 x)) HS.out,B1.out⟩
  ·have hf : fE v 119 = false:=by simp [fE,hv]
   rw [hf] at HF
   have hs : sgn 119 v = 9223372036854775807:=by unfold sgn; rw [if_pos rfl,if_neg hv]
   rw [hs]
   go_enter Tryz.func184,Tryz.ntmps184
   go_wp2_with (first | (go_at_call 243; refine (HF.out _).mono ?_; rintro e w' ⟨rfl,rfl⟩))
   go_ret;exact ⟨rfl,B1.out⟩
 ·have hc' : (c != 119) = true:=by simp [hc]
  have HS:=hid (AW hc h0 h1)
  go_enter Tryz.func184,Tryz.ntmps184
  go_wp2_with fail;go_ret
  exact ⟨congrArg (fun x => Ending.returned (.int .i64 x)) HS.out,B1.out⟩
theorem Ac {v : Int} (h0 : 0 ≤ v) (h : v < 4294967296) : sgn 119 v % 4294967296 = v:=by
 unfold sgn;rw [if_pos rfl,if_pos h]
 split <;> omega
theorem zH {c v : Int} (hc : c ≠ 119) (h0 : 0 ≤ v) (h : v < 18446744073709551616) : IntKind.u64.wrap (sgn c v) = v:=by
 unfold sgn;rw [if_neg hc]
 split <;> simp [IntKind.wrap,IntKind.bits,IntKind.signed] <;> omega
theorem li (c v : Int) (w : World) (h0 : 0 ≤ v) (h1 : v < 18446744073709551616) (h2 : c = 119 → v < 4294967296) : Calls Tryz.prog 186 #[.int .u8 c,.int .i64 (sgn c v)] w fun e w' => e = .returned (.int .u64 v) ∧ w' = w:=by
 by_cases hc : c = 119
 ·subst hc;have hb:=Ac h0 (h2 rfl);generalize sgn 119 v = x at *
  go_enter Tryz.func186,Tryz.ntmps186
  go_wp2_with fail;go_ret
  first | exact ⟨rfl,rfl⟩ | exact ⟨congrArg (fun x => Ending.returned (.int .u64 x)) hb,rfl⟩
 ·have hb:=zH hc h0 h1;generalize sgn c v = x at *
  have hc' : (c == 119) = false:=by simp [hc]
  go_enter Tryz.func186,Tryz.ntmps186
  go_wp2_with fail;go_ret;exact ⟨rfl,rfl⟩
theorem xB {v : Int} (h0 : 0 ≤ v) (h1 : v < 18446744073709551616) : (sgn 119 v == wrap64 (wrap32 (sgn 119 v))) = decide (v < 4294967296):=by
 unfold sgn wrap64 wrap32;rw [if_pos rfl]
 by_cases h : v < 4294967296
 ·rw [if_pos h]
  simp only [h,decide_true,beq_iff_eq]
  split <;> omega
 ·rw [if_neg h]
  simp only [h,decide_false]
  decide
theorem rT (B : Nat) (c v p : Int) (w : World) (h0 : 0 ≤ v) (h1 : v < 18446744073709551616) (hB : w.cell? ⟨B,0,none⟩ = some (.int .u8 c)) (h : c = 119 → v < 4294967296) :
  Calls Tryz.prog 185 #[.int .i64 (sgn c v),.int .i64 p,.pointer (some ⟨B,0,none⟩)] w (gH w):=by
 by_cases hc : c = 119
 ·subst hc;have hs:=xB h0 h1;rw [decide_eq_true (h rfl)] at hs;generalize sgn 119 v = x at *
  go_enter Tryz.func185,Tryz.ntmps185
  go_wp2_with fail
  refine (aZ (by first | rfl | exact hs)).mono ?_
  rintro e w' ⟨rfl,rfl⟩;go_wp2_with fail;go_end0;exact ⟨rfl,Below.refl _ _⟩
 ·have hc' : (c != 119) = true:=by simp [hc]
  generalize sgn c v = x at *
  go_enter Tryz.func185,Tryz.ntmps185
  go_wp2_with fail;refine (aZ rfl).mono ?_;rintro e w' ⟨rfl,rfl⟩;go_wp2_with fail;go_end0;exact ⟨rfl,Below.refl _ _⟩
theorem uQ (B : Nat) (v p : Int) (w : World) (h0 : 0 ≤ v) (h1 : v < 18446744073709551616) (hB : w.cell? ⟨B,0,none⟩ = some (.int .u8 119)) (h : ¬ v < 4294967296) :
  Calls Tryz.prog 185 #[.int .i64 (sgn 119 v),.int .i64 p,.pointer (some ⟨B,0,none⟩)] w (gD 17 w):=by
 have hs:=xB h0 h1;rw [decide_eq_false h] at hs;generalize sgn 119 v = x at *
 go_enter Tryz.func185,Tryz.ntmps185
 go_wp2_with fail
 refine (cA (by first | rfl | exact hs)).mono ?_
 rintro e w' ⟨rfl,rfl⟩;exact ⟨rfl,⟨_,rfl⟩,Below.refl _ _⟩
theorem yQ (b : Bool) (w : World) : Calls Tryz.prog 182 #[.bool b] w fun e w' => e = .returned (.int .u8 (bit b)) ∧ w' = w:=mB b w
theorem wX (b : Bool) (p : Int) (w : World) : Calls Tryz.prog 183 #[.int .u8 (bit b),.int .i64 p] w (gH w):=by
 cases b
 ·exact vs p w
 ·exact xa p w
theorem gu (b : Bool) : 0 ≤ bit b ∧ bit b ≤ 255:=by cases b <;> decide
theorem vH (b : Bool) : (bit b == 1) = b:=by cases b <;> decide
theorem aE {w : World} {b : Nat} {u v x : Value} {t : TypeId} (h : w.heap[b]? = some (.cells #[u,v,x] t)) : w.cell? ⟨b,0,none⟩ = some u ∧ w.cell? ⟨b,1,none⟩ = some v ∧ w.cell? ⟨b,2,none⟩ = some x ∧ w.frozen? ⟨b,0,none⟩ = false ∧ w.frozen? ⟨b,1,none⟩ = false ∧ w.frozen? ⟨b,2,none⟩ = false:=by
 simp [World.cell?,World.frozen?,h]
theorem mh (a : Addr) (w : World) : (nilAhead 445 127 (.pointer (some a)) "flagon/module.octet").run Tryz.prog w = .ok (some false) w:=rfl
theorem lj (a : Addr) (w : World) : (nilAhead 445 127 (.pointer (some a)) "flagon/module.signed").run Tryz.prog w = .ok (some false) w:=rfl
def kC (w : World) (c v : Int) (mu : Bool) : World:=(w.alloc (.cells #[.int .u8 c,.bool mu,.int .u64 v] 141)).alloc (.cells #[.int .u8 0,.bool false,.int .u64 0] 141)
theorem gN (w : World) (c v : Int) (mu : Bool) : Below w.heap.size w (kC w c v mu) ∧ (kC w c v mu).heap.size = w.heap.size + 1 + 1 ∧ (kC w c v mu).heap[w.heap.size]? = some (.cells #[.int .u8 c,.bool mu,.int .u64 v] 141) ∧ (kC w c v mu).heap[w.heap.size + 1]? = some (.cells #[.int .u8 0,.bool false,.int .u64 0] 141):=by
 unfold kC
 refine ⟨((Below.refl _ w).alloc (Nat.le_refl _) _).alloc (by simp) _,by simp,?_,?_⟩
 ·rw [(ag (w.alloc _) _).block _ (by simp)]
  exact (MapKept.heap_alloc w _).1
 ·have:=(MapKept.heap_alloc (w.alloc (.cells #[.int .u8 c,.bool mu,.int .u64 v] 141)) (.cells #[.int .u8 0,.bool false,.int .u64 0] 141)).1
  simpa using this
theorem oN (R g cap : Nat) (bs : List Int) (c v : Int) (mu : Bool) (w : World) (h : Wr w R g cap bs) (hb : bs.length + 100 ≤ 1099511627776) (h0 : 0 ≤ c) (h1 : c ≤ 255) (v0 : 0 ≤ v) (v1 : v < 18446744073709551616) (hl : isL c = true) (hv : c = 119 → v < 4294967296) :
  Calls Tryz.prog 121 #[cW R,.agg #[.int .u8 c,.bool mu,.int .u64 v]] w (i6 R g bs (bQ (c,mu,v)) (.agg #[.int .u8 c,.bool mu,.int .u64 v]) w):=by
 have hmo:=gY;have hco:=kM;have hms:=jp;have hcs:=o9;have hno:=mh;have hns:=lj;obtain ⟨B0,z0,x0,x1⟩:=gN w c v mu;have HW : (w.alloc (.cells #[.int .u8 c,.bool mu,.int .u64 v] 141)).alloc (.cells #[.int .u8 0,.bool false,.int .u64 0] 141) = kC w c v mu:=rfl;have hRl:=h.lt;have hgl:=h.g_lt;generalize kC w c v mu = W1 at *
 have H1:=hid (dK R g cap bs c 180 #[] W1 (h.later B0) h0 h1 (by omega) (fun _ _ => rfl) (k6 c _ W1 hl))
 have BW:=hid B0;obtain ⟨a0,a1,a2,_,_,_⟩:=aE x0;clear h B0
 go_enter Tryz.func121,Tryz.ntmps121
 go_wp2_with fail;refine H1.out.mono ?_;rintro e w2 ⟨rfl,g1,cap1,hw2,hs2⟩
 have y0:=(hs2.block (b:=w.heap.size) (by omega) (by omega) (by omega)).trans x0
 have y1:=(hs2.block (b:=w.heap.size + 1) (by omega) (by omega) (by omega)).trans x1
 have n0 : w.heap.size ≠ g1:=hs2.ne (by omega) (by omega)
 have n1 : w.heap.size + 1 ≠ g1:=hs2.ne (by omega) (by omega)
 have S2:=hid ((Stp.of_below BW.out).trans hs2);have z2:=S2.out.size;have z2':=hs2.size;have gl2:=hw2.g_lt;obtain ⟨w3,hw3⟩ : ∃ w3,w2.alloc (.cells #[.int .u8 c] 5) = w3:=⟨_,rfl⟩
 have B3 : Below w2.heap.size w2 w3:=by rw [← hw3]; exact ag _ _
 have z3 : w3.heap.size = w2.heap.size + 1:=by rw [← hw3]; simp
 have l3 : w3.cell? ⟨w2.heap.size,0,none⟩ = some (.int .u8 c):=by rw [← hw3]; exact cZ _ _ _
 have q0:=(B3.block w.heap.size (by omega)).trans y0
 have q1:=(B3.block (w.heap.size + 1) (by omega)).trans y1
 obtain ⟨b0,b1,b2,_,_,_⟩:=aE q0
 have HO2:=hid (dK R g1 cap1 (bs ++ [c]) (bit mu) 183 #[] w3.drew ((hw2.later B3).later (Below.refl _ _).drew) (gu mu).1 (gu mu).2 (by simp; omega) (fun _ _ => rfl) (wX mu _ w3.drew))
 have HF:=hid (yQ mu);have BB3:=hid B3;clear hs2 hw2 H1 x0 x1 a0 a1 a2 y0 y1 B3 HW;go_wp2_with fail
 go_region_held3 (fun W => W.cell? ⟨w.heap.size,1,none⟩ = some (.bool mu)) (assumption) (first
  | (go_at_call 182; refine (HF.out _).mono ?_; rintro e w' ⟨rfl,rfl⟩)
  | (go_at_call 313; refine HO2.out.mono ?_; rintro e w4 ⟨rfl,g2,cap2,hw4,hs4⟩; have hS' : w4.cell? ⟨w.heap.size,1,none⟩ = some (.bool mu):=hs4.cell b1 (by omega) n0; have W4:=hid hw4; have S4:=hid hs4; clear hw4 hs4))
 all_goals
  have f0:=(S4.out.block (b:=w.heap.size) (by simp; omega) (by omega) n0).trans q0
  have f1:=(S4.out.block (b:=w.heap.size + 1) (by simp; omega) (by omega) n1).trans q1
  have f2:=S4.out.cell (b:=w2.heap.size) l3 (by omega) (by omega)
  obtain ⟨d0,d1,d2,_,_,_⟩:=aE f0
  have m0 : w.heap.size ≠ g2:=S4.out.ne (by simp; omega) n0
  have m1 : w.heap.size + 1 ≠ g2:=S4.out.ne (by simp; omega) n1
  have m2 : w2.heap.size ≠ g2:=S4.out.ne (by simp; omega) (by omega)
  have z4 : w3.heap.size ≤ w4.heap.size:=S4.out.size;have S4':=hid ((S2.out.trans (Stp.of_below BB3.out)).trans ((Stp.of_below ((Below.refl _ _).drew)).trans S4.out))
  have HWS:=hid (fun W => jx c v mu W v0 v1)
  clear S4 HO2 HF hS' q0 q1 b0 b1 b2 l3 hno hmo hco;go_wp2_with fail
  have HSG:=hid (fun W (hW : Below w4.heap.size w4 W) => lR R g2 cap2 (bs ++ [c] ++ [bit mu]) (sgn c v) 185 #[.pointer (some ⟨w2.heap.size,0,none⟩)] W (W4.out.later hW) (ms c v v0 v1).1 (ms c v v0 v1).2 (by simp; omega) (fun _ _ => rfl) (rT w2.heap.size c v _ W v0 v1 ((hW.cell (by exact block_lt_of_cell f2)).trans f2) hv))
  have HB4:=hid (fun (W5 : World) (hb : Below w4.heap.size w4.drew W5) => (Below.trans ((Below.refl w4.heap.size w4).drew) hb : Below w4.heap.size w4 W5))
  have HC4:=hid (fun (W5 : World) (hb : Below w4.heap.size w4 W5) => (⟨(hb.cell (by exact block_lt_of_cell d0)).trans d0,(hb.cell (by exact block_lt_of_cell d1)).trans d1,(hb.cell (by exact block_lt_of_cell d2)).trans d2⟩ : W5.cell? ⟨w.heap.size,0,none⟩ = some (.int .u8 c) ∧ W5.cell? ⟨w.heap.size,1,none⟩ = some (.bool mu) ∧ W5.cell? ⟨w.heap.size,2,none⟩ = some (.int .u64 v)))
  go_region_held3 (fun W => W.cell? ⟨w.heap.size,0,none⟩ = some (.int .u8 c) ∧ W.cell? ⟨w.heap.size,1,none⟩ = some (.bool mu) ∧ W.cell? ⟨w.heap.size,2,none⟩ = some (.int .u64 v)) (first | assumption | exact ⟨d0,d1,d2⟩) (first
   | (go_at_call 184; refine (HWS.out _).mono ?_; rintro e w5 ⟨rfl,hb5⟩; have hB5:=hid (HB4.out w5 hb5); have hS':=HC4.out w5 hB5.out; clear hb5)
   | (go_at_call 315; refine (HSG.out _ hB5.out).mono ?_; rintro e w6 ⟨rfl,g3,bp,hw6,hs6⟩; have hS'' : w6.cell? ⟨w.heap.size,0,none⟩ = some (.int .u8 c) ∧ w6.cell? ⟨w.heap.size,1,none⟩ = some (.bool mu) ∧ w6.cell? ⟨w.heap.size,2,none⟩ = some (.int .u64 v):=⟨hs6.cell hS'.1 (by omega) m0,hs6.cell hS'.2.1 (by omega) m0,hs6.cell hS'.2.2 (by omega) m0⟩; have W6:=hid hw6; have S6:=hid hs6; clear hw6 hs6))
  all_goals
   have z5:=hB5.out.size
   have e1:=(S6.out.block (b:=w.heap.size + 1) (by omega) (by omega) m1).trans ((hB5.out.block _ (by omega)).trans f1)
   have e2:=S6.out.cell (b:=w2.heap.size) ((hB5.out.cell (by exact block_lt_of_cell f2)).trans f2) (by omega) m2
   have p1 : w.heap.size + 1 ≠ g3:=S6.out.ne (by omega) m1
   have S6':=hid ((S4'.out.trans (Stp.of_below hB5.out)).trans S6.out);obtain ⟨k0,k1,k2,k3,k4,k5⟩:=aE e1;have hlt6:=block_lt_of_cell e2;have hlt7:=block_lt_of_cell k0;have HF:=hid (yT)
   have HWO:=hid (fun W => li c v W v0 v1 hv)
   clear S6 HSG HB4 HC4 HWS hS' hS'' f0 f1 f2 d0 d1 d2 hns hms hcs e1;go_wp2_with fail;have hbb:=vH mu
   go_region_held3 (fun W => W.cell? ⟨w2.heap.size,0,none⟩ = some (.int .u8 c)) (first | assumption | (simp [go_sem]; assumption) | (rw [World.cell?_setCell_other _ _ _ _ (by simp; omega),World.cell?_setCell_other _ _ _ _ (by simp; omega),World.cell?_setCell_other _ _ _ _ (by simp; omega)]; assumption)) (first
    | (go_at_call 182; refine (HF.out _).mono ?_; rintro e w' ⟨rfl,rfl⟩)
    | (go_at_call 186; refine (HWO.out _).mono ?_; rintro e w' ⟨rfl,rfl⟩))
   all_goals
    go_wp2_with fail;refine bodyPost_ret (v:=.agg #[.int .u8 c,.bool mu,.int .u64 v]) ?_ rfl ⟨rfl,g3,bp,?_,?_⟩
    ·rw [ay rfl];go_simp
    ·have:=(((W6.out.set (b:=w.heap.size + 1) (o:=0) (v:=.int .u8 c) (by omega) p1).set (b:=w.heap.size + 1) (o:=1) (v:=.bool mu) (by omega) p1).set (b:=w.heap.size + 1) (o:=2) (v:=.int .u64 v) (by omega) p1).later (Below.refl _ _).drew
     simpa [bQ,bit,List.append_assoc] using this
    ·exact (((S6'.out.set (by omega)).set (by omega)).set (by omega)).trans (Stp.of_below ((Below.refl _ _).drew))
end Go.Proofs.YtepnnenohjfkbaaGreatDoor
