/-
  Texts Lin Lfu Feed Pieces.
-/
import Derived.Lib.Bytealg
import Derived.RangeFuncCalls
import Derived.RangeFuncLeaves
import Derived.RangeFuncWrites
import Derived.Test.YtepnnenohjfkbaaGreatDoorP01
import Derived.Test.YtepnnenohjfkbaaGreatDoorP05
import Derived.Test.YtepnnenohjfkbaaGreatDoorP08
set_option linter.unusedVariables false
set_option maxRecDepth 100000
set_option maxHeartbeats 16000000
namespace Go.Proofs.YtepnnenohjfkbaaGreatDoor
open Go.RowKit
theorem zd : ∃ i,Tryz.prog.info? 51 = some i ∧ i.zero = some (.agg #[.int .u8 0,.int .i64 0,.slice none 0 0]) ∧ i.size = 3 ∧ i.bytes = 40:=by
 have h : (Tryz.prog.info? 51).map (fun i => (i.zero,i.size,i.bytes)) = some (some (.agg #[.int .u8 0,.int .i64 0,.slice none 0 0]),3,40):=by kernel_rfl
 cases hi : Tryz.prog.info? 51 with
 | none => rw [hi] at h; cases h
 | some i => rw [hi] at h; simp at h; exact ⟨i,rfl,h.1,h.2.1,h.2.2⟩
def iN (y : (Int × Int × (Option Addr × Nat × Nat))) : List Value:=[.int .u8 y.1,.int .i64 y.2.1,.slice y.2.2.1 y.2.2.2.1 y.2.2.2.2]
abbrev AR (x : (Int × Int × (Option Addr × Nat × Nat) × List Int)) : Value:=.agg #[.int .u8 x.1,.int .i64 x.2.1,.slice x.2.2.1.1 x.2.2.1.2.1 x.2.2.1.2.2]
abbrev Bw (y : (Int × Int × (Option Addr × Nat × Nat))) : Value:=.agg #[.int .u8 y.1,.int .i64 y.2.1,.slice y.2.2.1 y.2.2.2.1 y.2.2.2.2]
def AtIn (w : World) (a : Option Addr) (n : Nat) (xs : List (Int × Int × (Option Addr × Nat × Nat) × List Int)) : Prop :=
 xs.length = n ∧ (n = 0 ∨ ∃ b off,a = some ⟨b,off,none⟩ ∧ ∀ (j : Nat) x,xs[j]? = some x → w.cell? ⟨b,off + j * 3,none⟩ = some (.int .u8 x.1) ∧ w.cell? ⟨b,off + j * 3 + 1,none⟩ = some (.int .i64 x.2.1) ∧ w.cell? ⟨b,off + j * 3 + 2,none⟩ = some (.slice x.2.2.1.1 x.2.2.1.2.1 x.2.2.1.2.2))
theorem AtIn.kept {S : Nat → Prop} {w w' : World} {a : Option Addr} {n : Nat} {xs : List (Int × Int × (Option Addr × Nat × Nat) × List Int)} (h : AtIn w a n xs) (hk : Kept S w w') (hS : ∀ b off c,nz n a = some ⟨b,off,c⟩ → ¬ S b) : AtIn w' a n xs:=by
 refine ⟨h.1,h.2.imp id ?_⟩;rintro ⟨b,off,ha,hc⟩
 refine ⟨b,off,ha,fun j x hj => ?_⟩
 have ha:=vN (n:=n) (by have:=h.1; have:=(List.getElem?_eq_some_iff.1 hj).1; omega) ha
 have:=hc j x hj
 exact ⟨hk.cell this.1 (hS _ _ _ ha),hk.cell this.2.1 (hS _ _ _ ha),hk.cell this.2.2 (hS _ _ _ ha)⟩
theorem jP (w : World) (y : (Int × Int × (Option Addr × Nat × Nat))) : ∀ j u,(iN y)[j]? = some u → (w.alloc (.cells #[.int .u8 y.1,.int .i64 y.2.1,.slice y.2.2.1 y.2.2.2.1 y.2.2.2.2] 51)).cell? ((⟨w.heap.size,0,none⟩ : Addr).add j) = some u:=by
 intro j u hj;have hlt:=au hj;have hl : (iN y).length = 3:=rfl;rw [hl] at hlt
 have hadd : (⟨w.heap.size,0,none⟩ : Addr).add j = ⟨w.heap.size,j,none⟩:=by unfold Addr.add; split <;> simp_all
 rw [hadd];have hb:=(MapKept.heap_alloc w (.cells #[.int .u8 y.1,.int .i64 y.2.1,.slice y.2.2.1 y.2.2.2.1 y.2.2.2.2] 51)).1
 simp only [World.cell?,hb]
 simpa [iN] using hj
theorem jL (y : (Int × Int × (Option Addr × Nat × Nat))) : ∀ u ∈ iN y,u.oneCell' = true:=by
 intro u hu
 simp [iN] at hu
 rcases hu with rfl | rfl | rfl <;> rfl
def sM (R g : Nat) (w : World) (K : Nat) (cs : Array Value) (bs : List Int) (n : Nat) (xs : List (Int × Int × (Option Addr × Nat × Nat) × List Int)) (enc : (Int × Int × (Option Addr × Nat × Nat) × List Int) → List Int) (Ok : (Int × Int × (Option Addr × Nat × Nat) × List Int) → (Int × Int × (Option Addr × Nat × Nat)) → Prop) (j : Nat) (x : (Int × Int × (Option Addr × Nat × Nat) × List Int)) : Prop :=
 ∀ (ys : List (Int × Int × (Option Addr × Nat × Nat))) (W : World) (g1 cap1 : Nat) (aa : Option Addr) (ac : Nat),ys.length = j → (∀ (i : Nat) y,ys[i]? = some y → ∃ x',xs[i]? = some x' ∧ Ok x' y) → Stp R g g1 w W → Wr W R g1 cap1 (bs ++ am n ++ (xs.take j).flatMap enc) →
  W.ownsRow 0 51 3 (.slice aa j ac) j (ys.flatMap iN) → (∀ b,aa = some b → w.heap.size ≤ b.block ∧ b.block ≠ g1) →
  Calls Tryz.prog K (#[AR x,.slice aa j ac] ++ cs) W (fun e w' => ∃ y,e = .returned (Bw y) ∧ Ok x y ∧ ∃ g' cap',Wr w' R g' cap' (bs ++ am n ++ (xs.take j).flatMap enc ++ enc x) ∧ Stp R g1 g' W w')
def xm (R g : Nat) (w : World) (K : Nat) (cs : Array Value) (bs : List Int) (n : Nat) (xs : List (Int × Int × (Option Addr × Nat × Nat) × List Int)) (enc : (Int × Int × (Option Addr × Nat × Nat) × List Int) → List Int) (Ok : (Int × Int × (Option Addr × Nat × Nat) × List Int) → (Int × Int × (Option Addr × Nat × Nat)) → Prop) (j : Nat) (x : (Int × Int × (Option Addr × Nat × Nat) × List Int)) (er : Int) : Prop :=
 ∀ (ys : List (Int × Int × (Option Addr × Nat × Nat))) (W : World) (g1 cap1 : Nat) (aa : Option Addr) (ac : Nat),ys.length = j → (∀ (i : Nat) y,ys[i]? = some y → ∃ x',xs[i]? = some x' ∧ Ok x' y) → Stp R g g1 w W → Wr W R g1 cap1 (bs ++ am n ++ (xs.take j).flatMap enc) →
  W.ownsRow 0 51 3 (.slice aa j ac) j (ys.flatMap iN) → (∀ b,aa = some b → w.heap.size ≤ b.block ∧ b.block ≠ g1) →
  Calls Tryz.prog K (#[AR x,.slice aa j ac] ++ cs) W (aG R g1 er W)
theorem oT (R g cap : Nat) (bs : List Int) (ha : Option Addr) (n hc : Nat) (most : Int) (K : Nat) (cs : Array Value) (w : World) (xs : List (Int × Int × (Option Addr × Nat × Nat) × List Int)) (enc : (Int × Int × (Option Addr × Nat × Nat) × List Int) → List Int) (Ok : (Int × Int × (Option Addr × Nat × Nat) × List Int) → (Int × Int × (Option Addr × Nat × Nat)) → Prop) (M : Nat)
  (h : Wr w R g cap bs) (hn : n ≤ 100000) (hm : (n : Int) ≤ most) (hmem : AtIn w ha n xs) (hne : ∀ b off c,nz n ha = some ⟨b,off,c⟩ → b ≠ R ∧ b ≠ g)
  (hK : ∀ args w,(callFunc K args).run Tryz.prog w = .ok (.enter K args) w) (hlen : ∀ (j : Nat) x,xs[j]? = some x → (enc x).length ≤ M) (hM : M ≤ 1000000) (hb : bs.length + 200000000000 ≤ 1099511627776)
  (heach : ∀ (j : Nat) x,xs[j]? = some x → sM R g w K cs bs n xs enc Ok j x) :
  Calls Tryz.prog 188 #[cW R,.slice ha n hc,.int .i64 most,.func (.func K) #[] cs] w fun e w' => ∃ (aa : Option Addr) (ac : Nat) (ys : List (Int × Int × (Option Addr × Nat × Nat))),e = .returned (.slice aa n ac) ∧ ys.length = n ∧ (∀ (i : Nat) y,ys[i]? = some y → ∃ x,xs[i]? = some x ∧ Ok x y) ∧
   w'.ownsRow 0 51 3 (.slice aa n ac) n (ys.flatMap iN) ∧ ∃ g' cap',(∀ b,aa = some b → w.heap.size ≤ b.block ∧ b.block ≠ g') ∧ Wr w' R g' cap' (bs ++ am n ++ xs.flatMap enc) ∧ Stp R g g' w w':=by
 have hmc:=aQ;have hcc:=aX
 have HC:=hid (aU R g cap bs n most w h hm (by omega) (by omega))
 have hRl:=h.lt;have hgl:=h.g_lt;have hxl:=hmem.1;have HM:=hid hmem;have HNE:=hid hne;have HE:=hid heach;obtain ⟨i0,hi,hz0,hz1,hz2⟩:=zd;clear h hmem heach hne
 go_enter Tryz.func188,Tryz.ntmps188
 go_wp2_with fail;refine HC.out.mono ?_;rintro e w2 ⟨rfl,g1,cap1,hw2,hs2⟩;have W2:=hid hw2;have S2:=hid hs2;clear hw2 hs2 HC hmc hcc;go_wp2_with fail
 go_loopw [9,17] (fun o i wr => ∃ (j : Nat) (ys : List (Int × Int × (Option Addr × Nat × Nat))) (aa : Option Addr) (ac g1 cap1 : Nat),j ≤ n ∧ i = .int .i64 j ∧ o = .slice aa j ac ∧ ys.length = j ∧ (∀ (i : Nat) y,ys[i]? = some y → ∃ x,xs[i]? = some x ∧ Ok x y) ∧
   wr.ownsRow 0 51 3 (.slice aa j ac) j (ys.flatMap iN) ∧ (∀ b,aa = some b → w.heap.size ≤ b.block ∧ b.block ≠ g1) ∧ Wr wr R g1 cap1 (bs ++ am n ++ (xs.take j).flatMap enc) ∧ Stp R g g1 w wr) (fun _ i _ => n - (intOf i).toNat)
 case atStart => exact ⟨0,[],none,0,g1,cap1,by omega,rfl,rfl,rfl,(fun i y h => by simp at h),World.ownsRow_nil _ _ _ _,(fun b h => by cases h),by simpa using W2.out,S2.out⟩
 case round =>
  obtain ⟨j,ys,aa,ac,g3,bp,hj,rfl,rfl,hyl,hys,hrow,hab,hwr,hst⟩:=hrel;have HY:=hid hys;have HRW:=hid hrow;have HAB:=hid hab;have HWR:=hid hwr;have HST:=hid hst;clear hys hrow hab hwr hst W2 S2
  by_cases hlt : j < n
  ·obtain ⟨x,hx⟩ : ∃ x,xs[j]? = some x:=⟨_,List.getElem?_eq_getElem (by omega)⟩
   obtain ⟨b,off,rfl,hcell⟩ : ∃ b off,ha = some ⟨b,off,none⟩ ∧ ∀ (j : Nat) x,xs[j]? = some x → wr.cell? ⟨b,off + j * 3,none⟩ = some (.int .u8 x.1) ∧ wr.cell? ⟨b,off + j * 3 + 1,none⟩ = some (.int .i64 x.2.1) ∧ wr.cell? ⟨b,off + j * 3 + 2,none⟩ = some (.slice x.2.2.1.1 x.2.2.1.2.1 x.2.2.1.2.2):=by
    rcases (HM.out.kept HST.out.k (fun b off c h => by have:=HNE.out b off c h; simp; omega)).2 with h0 | h
    ·omega
    ·exact h
   have hcj:=hcell j x hx;have hbl:=block_lt_of_cell hcj.1;clear hcell;obtain ⟨v0,v1,v2⟩:=hcj;have BN:=hid (ag wr (.cells #[.int .u8 x.1,.int .i64 x.2.1,.slice x.2.2.1.1 x.2.2.1.2.1 x.2.2.1.2.2] 51))
   have HC1:=hid (HE.out j x hx ys (wr.alloc (.cells #[.int .u8 x.1,.int .i64 x.2.1,.slice x.2.2.1.1 x.2.2.1.2.1 x.2.2.1.2.2] 51)) g3 bp aa ac hyl HY.out (HST.out.trans (Stp.of_below BN.out)) (HWR.out.later BN.out) (ar HRW.out (fun B hB => BN.out.block B (ak HRW.out hB))) HAB.out)
   go_wp2_with fail;generalize wr.alloc (.cells #[.int .u8 x.1,.int .i64 x.2.1,.slice x.2.2.1.1 x.2.2.1.2.1 x.2.2.1.2.2] 51) = W at *;have hszW:=BN.out.size;refine HC1.out.mono ?_;rintro e w5 ⟨y,rfl,hok,g4,cap4,hw5,hs5⟩;have hgr : g3 < wr.heap.size:=HWR.out.g_lt;have hRr : R < wr.heap.size:=HWR.out.lt
   have row5 : w5.ownsRow 0 51 3 (.slice aa j ac) j (ys.flatMap iN):=ar HRW.out (fun B hB => by
    have h1:=ak HRW.out hB;have h2 : ∃ a,aa = some a ∧ a.block = B:=bK hB;obtain ⟨a,ha1,ha2⟩:=h2;have h3:=HAB.out a ha1;have h4:=HST.out.size
    exact (hs5.block (b:=B) (by omega) (by omega) (by omega)).trans (BN.out.block B h1))
   have gg4:=hw5.g_lt
   have hab5 : ∀ b,aa = some b → b.block ≠ g4 ∧ b.block < w5.heap.size:=fun a ha1 => by
    have h3:=HAB.out a ha1;have h1 : a.block < wr.heap.size:=ak HRW.out (bk HRW.out ha1)
    exact ⟨hs5.ne (by omega) h3.2,Nat.lt_of_lt_of_le h1 (Nat.le_trans hszW hs5.size)⟩
   have W5:=hid hw5;have S5:=hid (HST.out.trans ((Stp.of_below BN.out).trans hs5));have O5:=hid hok;have BN5:=hid (ag w5 (.cells #[.int .u8 y.1,.int .i64 y.2.1,.slice y.2.2.1 y.2.2.2.1 y.2.2.2.2] 51))
   have R6:=hid (ar (w':=w5.alloc (.cells #[.int .u8 y.1,.int .i64 y.2.1,.slice y.2.2.1 y.2.2.2.1 y.2.2.2.2] 51)) row5 (fun B hB => BN5.out.block B (ak row5 hB)))
   have HAB5:=hid hab5;have NC:=hid (jP w5 y)
   have hz6 : (w5.alloc (.cells #[.int .u8 y.1,.int .i64 y.2.1,.slice y.2.2.1 y.2.2.2.1 y.2.2.2.2] 51)).heap.size = w5.heap.size + 1:=by simp
   clear hw5 hs5 row5 hab5 HC1 hok
   go_wp2_with (at_builtin; (refine bC _ rfl (.tmp 28) (.tmp 33) 40 rfl 51 i0 _ 3 40 Tryz.underlying40 hi hz0 hz1 hz2 rfl (by decide) _ j _ rfl R6.out ⟨w5.heap.size,0,none⟩ 1 1 (iN y) rfl rfl NC.out (jL y) (by omega) (by unfold maxLen; omega) (by omega) ?_; intro B cap7 w7 hrow7 hor7; have R7:=hid hrow7; have OR7:=hid hor7; clear hrow7 hor7))
   generalize w5.alloc (.cells #[.int .u8 y.1,.int .i64 y.2.1,.slice y.2.2.1 y.2.2.2.1 y.2.2.2.2] 51) = W6 at *
   have hBn : w.heap.size ≤ B ∧ B ≠ g4 ∧ Kept (fun k => k = B) W6 w7:=by
    rcases OR7.out with ⟨h1,h2⟩ | ⟨h1,h2⟩
    ·have h1' : aa = some ⟨B,0,none⟩:=(Value.slice.inj h1).1;exact ⟨(HAB.out _ h1').1,(HAB5.out _ h1').1,h2⟩
    ·have:=S5.out.size
     exact ⟨by omega,by omega,h2.mono (fun k hk => hk.elim)⟩
   have hRw:=S5.out.size
   go_roundw
   ·refine ⟨j + 1,ys ++ [y],some ⟨B,0,none⟩,cap7,g4,cap4,by omega,rfl,rfl,by simp [hyl],?_,?_,?_,?_,?_⟩
    ·intro i y' hi'
     by_cases hij : i < ys.length
     ·rw [List.getElem?_append_left hij] at hi';exact HY.out i y' hi'
     ·rw [List.getElem?_append_right (by omega)] at hi'
      have hi0 : i - ys.length = 0:=by
       rcases Nat.eq_zero_or_pos (i - ys.length) with h | h
       ·exact h
       ·rw [List.getElem?_eq_none (by simp; omega)] at hi'; cases hi'
      rw [hi0] at hi'
      simp at hi'
      subst hi'
      obtain rfl : i = j:=by omega
      exact ⟨x,hx,O5.out⟩
    ·have:=R7.out
     simpa [cy] using this
    ·intro b' hb'
     simp at hb'
     subst hb';exact ⟨hBn.1,hBn.2.1⟩
    ·have:=(W5.out.later BN5.out).kept hBn.2.2 (by omega) (Ne.symm hBn.2.1)
     rw [bo enc hx]
     simpa [List.append_assoc] using this
    ·exact ⟨(S5.out.k.trans (aB BN5.out)).then hBn.2.2 (fun k hk hkB => by have:=hBn.1; omega),S5.out.m⟩
   ·simp [intOf]; omega
  ·obtain rfl : j = n:=by omega
   have hxs : xs.take j = xs:=List.take_of_length_le (by omega)
   go_wp2_with fail;go_ret;refine ⟨aa,ac,ys,rfl,hyl,HY.out,HRW.out,g3,bp,HAB.out,?_,HST.out⟩;rw [← hxs];exact HWR.out
theorem qL (R g cap : Nat) (bs : List Int) (ha : Option Addr) (n hc : Nat) (most : Int) (K : Nat) (cs : Array Value) (w : World) (xs : List (Int × Int × (Option Addr × Nat × Nat) × List Int)) (enc : (Int × Int × (Option Addr × Nat × Nat) × List Int) → List Int) (Ok : (Int × Int × (Option Addr × Nat × Nat) × List Int) → (Int × Int × (Option Addr × Nat × Nat)) → Prop) (M : Nat)
  (h : Wr w R g cap bs) (hn : n ≤ 100000) (hm : (n : Int) ≤ most) (hmem : AtIn w ha n xs) (hne : ∀ b off c,nz n ha = some ⟨b,off,c⟩ → b ≠ R ∧ b ≠ g)
  (hK : ∀ args w,(callFunc K args).run Tryz.prog w = .ok (.enter K args) w) (hlen : ∀ (j : Nat) x,xs[j]? = some x → (enc x).length ≤ M) (hM : M ≤ 1000000) (hb : bs.length + 200000000000 ≤ 1099511627776)
  (k : Nat) (xk : (Int × Int × (Option Addr × Nat × Nat) × List Int)) (er : Int) (hk : xs[k]? = some xk) (heach : ∀ (j : Nat) x,xs[j]? = some x → j < k → sM R g w K cs bs n xs enc Ok j x) (hno : xm R g w K cs bs n xs enc Ok k xk er) :
  Calls Tryz.prog 188 #[cW R,.slice ha n hc,.int .i64 most,.func (.func K) #[] cs] w (aG R g er w):=by
 have hkn:=au hk;have hmc:=aQ;have hcc:=aX
 have HC:=hid (aU R g cap bs n most w h hm (by omega) (by omega))
 have hRl:=h.lt;have hgl:=h.g_lt;have hxl:=hmem.1;have HM:=hid hmem;have HNE:=hid hne;have HE:=hid heach;have HN:=hid hno;obtain ⟨i0,hi,hz0,hz1,hz2⟩:=zd;clear h hmem heach hne hno
 go_enter Tryz.func188,Tryz.ntmps188
 go_wp2_with fail;refine HC.out.mono ?_;rintro e w2 ⟨rfl,g1,cap1,hw2,hs2⟩;have W2:=hid hw2;have S2:=hid hs2;clear hw2 hs2 HC hmc hcc;go_wp2_with fail
 go_loopw [9,17] (fun o i wr => ∃ (j : Nat) (ys : List (Int × Int × (Option Addr × Nat × Nat))) (aa : Option Addr) (ac g1 cap1 : Nat),j ≤ k ∧ i = .int .i64 j ∧ o = .slice aa j ac ∧ ys.length = j ∧ (∀ (i : Nat) y,ys[i]? = some y → ∃ x,xs[i]? = some x ∧ Ok x y) ∧
   wr.ownsRow 0 51 3 (.slice aa j ac) j (ys.flatMap iN) ∧ (∀ b,aa = some b → w.heap.size ≤ b.block ∧ b.block ≠ g1) ∧ Wr wr R g1 cap1 (bs ++ am n ++ (xs.take j).flatMap enc) ∧ Stp R g g1 w wr) (fun _ i _ => n - (intOf i).toNat)
 case atStart => exact ⟨0,[],none,0,g1,cap1,by omega,rfl,rfl,rfl,(fun i y h => by simp at h),World.ownsRow_nil _ _ _ _,(fun b h => by cases h),by simpa using W2.out,S2.out⟩
 case round =>
  obtain ⟨j,ys,aa,ac,g3,bp,hj,rfl,rfl,hyl,hys,hrow,hab,hwr,hst⟩:=hrel;have HY:=hid hys;have HRW:=hid hrow;have HAB:=hid hab;have HWR:=hid hwr;have HST:=hid hst;clear hys hrow hab hwr hst W2 S2
  have hlt : j < n:=by omega
  ·obtain ⟨x,hx⟩ : ∃ x,xs[j]? = some x:=⟨_,List.getElem?_eq_getElem (by omega)⟩
   obtain ⟨b,off,rfl,hcell⟩ : ∃ b off,ha = some ⟨b,off,none⟩ ∧ ∀ (j : Nat) x,xs[j]? = some x → wr.cell? ⟨b,off + j * 3,none⟩ = some (.int .u8 x.1) ∧ wr.cell? ⟨b,off + j * 3 + 1,none⟩ = some (.int .i64 x.2.1) ∧ wr.cell? ⟨b,off + j * 3 + 2,none⟩ = some (.slice x.2.2.1.1 x.2.2.1.2.1 x.2.2.1.2.2):=by
    rcases (HM.out.kept HST.out.k (fun b off c h => by have:=HNE.out b off c h; simp; omega)).2 with h0 | h
    ·omega
    ·exact h
   have hcj:=hcell j x hx;have hbl:=block_lt_of_cell hcj.1;clear hcell;obtain ⟨v0,v1,v2⟩:=hcj;have BN:=hid (ag wr (.cells #[.int .u8 x.1,.int .i64 x.2.1,.slice x.2.2.1.1 x.2.2.1.2.1 x.2.2.1.2.2] 51))
   by_cases hjk : j < k
   ·skip
    have HC1:=hid (HE.out j x hx hjk ys (wr.alloc (.cells #[.int .u8 x.1,.int .i64 x.2.1,.slice x.2.2.1.1 x.2.2.1.2.1 x.2.2.1.2.2] 51)) g3 bp aa ac hyl HY.out (HST.out.trans (Stp.of_below BN.out)) (HWR.out.later BN.out) (ar HRW.out (fun B hB => BN.out.block B (ak HRW.out hB))) HAB.out)
    go_wp2_with fail;generalize wr.alloc (.cells #[.int .u8 x.1,.int .i64 x.2.1,.slice x.2.2.1.1 x.2.2.1.2.1 x.2.2.1.2.2] 51) = W at *;have hszW:=BN.out.size;refine HC1.out.mono ?_;rintro e w5 ⟨y,rfl,hok,g4,cap4,hw5,hs5⟩;have hgr : g3 < wr.heap.size:=HWR.out.g_lt;have hRr : R < wr.heap.size:=HWR.out.lt
    have row5 : w5.ownsRow 0 51 3 (.slice aa j ac) j (ys.flatMap iN):=ar HRW.out (fun B hB => by
     have h1:=ak HRW.out hB;have h2 : ∃ a,aa = some a ∧ a.block = B:=bK hB;obtain ⟨a,ha1,ha2⟩:=h2;have h3:=HAB.out a ha1;have h4:=HST.out.size
     exact (hs5.block (b:=B) (by omega) (by omega) (by omega)).trans (BN.out.block B h1))
    have gg4:=hw5.g_lt
    have hab5 : ∀ b,aa = some b → b.block ≠ g4 ∧ b.block < w5.heap.size:=fun a ha1 => by
     have h3:=HAB.out a ha1;have h1 : a.block < wr.heap.size:=ak HRW.out (bk HRW.out ha1)
     exact ⟨hs5.ne (by omega) h3.2,Nat.lt_of_lt_of_le h1 (Nat.le_trans hszW hs5.size)⟩
    have W5:=hid hw5;have S5:=hid (HST.out.trans ((Stp.of_below BN.out).trans hs5));have O5:=hid hok;have BN5:=hid (ag w5 (.cells #[.int .u8 y.1,.int .i64 y.2.1,.slice y.2.2.1 y.2.2.2.1 y.2.2.2.2] 51))
    have R6:=hid (ar (w':=w5.alloc (.cells #[.int .u8 y.1,.int .i64 y.2.1,.slice y.2.2.1 y.2.2.2.1 y.2.2.2.2] 51)) row5 (fun B hB => BN5.out.block B (ak row5 hB)))
    have HAB5:=hid hab5;have NC:=hid (jP w5 y)
    have hz6 : (w5.alloc (.cells #[.int .u8 y.1,.int .i64 y.2.1,.slice y.2.2.1 y.2.2.2.1 y.2.2.2.2] 51)).heap.size = w5.heap.size + 1:=by simp
    clear hw5 hs5 row5 hab5 HC1 hok
    go_wp2_with (at_builtin; (refine bC _ rfl (.tmp 28) (.tmp 33) 40 rfl 51 i0 _ 3 40 Tryz.underlying40 hi hz0 hz1 hz2 rfl (by decide) _ j _ rfl R6.out ⟨w5.heap.size,0,none⟩ 1 1 (iN y) rfl rfl NC.out (jL y) (by omega) (by unfold maxLen; omega) (by omega) ?_; intro B cap7 w7 hrow7 hor7; have R7:=hid hrow7; have OR7:=hid hor7; clear hrow7 hor7))
    generalize w5.alloc (.cells #[.int .u8 y.1,.int .i64 y.2.1,.slice y.2.2.1 y.2.2.2.1 y.2.2.2.2] 51) = W6 at *
    have hBn : w.heap.size ≤ B ∧ B ≠ g4 ∧ Kept (fun k => k = B) W6 w7:=by
     rcases OR7.out with ⟨h1,h2⟩ | ⟨h1,h2⟩
     ·have h1' : aa = some ⟨B,0,none⟩:=(Value.slice.inj h1).1;exact ⟨(HAB.out _ h1').1,(HAB5.out _ h1').1,h2⟩
     ·have:=S5.out.size
      exact ⟨by omega,by omega,h2.mono (fun k hk => hk.elim)⟩
    have hRw:=S5.out.size
    go_roundw
    ·refine ⟨j + 1,ys ++ [y],some ⟨B,0,none⟩,cap7,g4,cap4,by omega,rfl,rfl,by simp [hyl],?_,?_,?_,?_,?_⟩
     ·intro i y' hi'
      by_cases hij : i < ys.length
      ·rw [List.getElem?_append_left hij] at hi';exact HY.out i y' hi'
      ·rw [List.getElem?_append_right (by omega)] at hi'
       have hi0 : i - ys.length = 0:=by
        rcases Nat.eq_zero_or_pos (i - ys.length) with h | h
        ·exact h
        ·rw [List.getElem?_eq_none (by simp; omega)] at hi'; cases hi'
       rw [hi0] at hi'
       simp at hi'
       subst hi'
       obtain rfl : i = j:=by omega
       exact ⟨x,hx,O5.out⟩
     ·have:=R7.out
      simpa [cy] using this
     ·intro b' hb'
      simp at hb'
      subst hb';exact ⟨hBn.1,hBn.2.1⟩
     ·have:=(W5.out.later BN5.out).kept hBn.2.2 (by omega) (Ne.symm hBn.2.1)
      rw [bo enc hx]
      simpa [List.append_assoc] using this
     ·exact ⟨(S5.out.k.trans (aB BN5.out)).then hBn.2.2 (fun k hk hkB => by have:=hBn.1; omega),S5.out.m⟩
    ·simp [intOf]; omega
   ·obtain rfl : j = k:=by omega
    obtain rfl : x = xk:=by rw [hx] at hk; simpa using hk
    have HC1:=hid (HN.out ys (wr.alloc (.cells #[.int .u8 x.1,.int .i64 x.2.1,.slice x.2.2.1.1 x.2.2.1.2.1 x.2.2.1.2.2] 51)) g3 bp aa ac hyl HY.out (HST.out.trans (Stp.of_below BN.out)) (HWR.out.later BN.out) (ar HRW.out (fun B hB => BN.out.block B (ak HRW.out hB))) HAB.out)
    go_wp2_with fail;refine HC1.out.mono ?_;rintro e w5 ⟨⟨p,rfl⟩,hk5⟩;exact ⟨rfl,⟨p,rfl⟩,(HST.out.trans (Stp.of_below BN.out)).throw hk5⟩
theorem nB (R g cap : Nat) (bs : List Int) (ha : Option Addr) (n hc : Nat) (most : Int) (f : Value) (w : World) (h : Wr w R g cap bs) (hm : most < (n : Int)) :
  Calls Tryz.prog 188 #[cW R,.slice ha n hc,.int .i64 most,f] w (aG R g 20 w):=by
 have hmc:=aQ;have hcc:=aX;have HC:=hid (cE R g cap bs n most w h hm);clear h
 go_enter Tryz.func188,Tryz.ntmps188
 go_wp2_with fail;refine HC.out.mono ?_;rintro e w2 ⟨⟨p,rfl⟩,hk⟩;exact ⟨rfl,⟨p,rfl⟩,hk⟩
theorem zr : ∃ i,Tryz.prog.info? 42 = some i ∧ i.zero = some (.agg #[.int .i64 0,.string ⟨#[]⟩,.slice none 0 0]) ∧ i.size = 3 ∧ i.bytes = 48:=by
 have h : (Tryz.prog.info? 42).map (fun i => (i.zero,i.size,i.bytes)) = some (some (.agg #[.int .i64 0,.string ⟨#[]⟩,.slice none 0 0]),3,48):=by kernel_rfl
 cases hi : Tryz.prog.info? 42 with
 | none => rw [hi] at h; cases h
 | some i => rw [hi] at h; simp at h; exact ⟨i,rfl,h.1,h.2.1,h.2.2⟩
def ir (y : (Int × ByteArray × (Option Addr × Nat × Nat))) : List Value:=[.int .i64 y.1,.string y.2.1,.slice y.2.2.1 y.2.2.2.1 y.2.2.2.2]
abbrev AZ (x : (Int × ByteArray × (Option Addr × Nat × Nat) × List (Int × Int × (Option Addr × Nat × Nat) × List Int))) : Value:=.agg #[.int .i64 x.1,.string x.2.1,.slice x.2.2.1.1 x.2.2.1.2.1 x.2.2.1.2.2]
abbrev Bs (y : (Int × ByteArray × (Option Addr × Nat × Nat))) : Value:=.agg #[.int .i64 y.1,.string y.2.1,.slice y.2.2.1 y.2.2.2.1 y.2.2.2.2]
def iP (w : World) (a : Option Addr) (n : Nat) (xs : List (Int × ByteArray × (Option Addr × Nat × Nat) × List (Int × Int × (Option Addr × Nat × Nat) × List Int))) : Prop :=
 xs.length = n ∧ (n = 0 ∨ ∃ b off,a = some ⟨b,off,none⟩ ∧ ∀ (j : Nat) x,xs[j]? = some x → w.cell? ⟨b,off + j * 3,none⟩ = some (.int .i64 x.1) ∧ w.cell? ⟨b,off + j * 3 + 1,none⟩ = some (.string x.2.1) ∧ w.cell? ⟨b,off + j * 3 + 2,none⟩ = some (.slice x.2.2.1.1 x.2.2.1.2.1 x.2.2.1.2.2))
theorem iP.kept {S : Nat → Prop} {w w' : World} {a : Option Addr} {n : Nat} {xs : List (Int × ByteArray × (Option Addr × Nat × Nat) × List (Int × Int × (Option Addr × Nat × Nat) × List Int))} (h : iP w a n xs) (hk : Kept S w w') (hS : ∀ b off c,a = some ⟨b,off,c⟩ → ¬ S b) : iP w' a n xs:=by
 refine ⟨h.1,h.2.imp id ?_⟩;rintro ⟨b,off,ha,hc⟩
 refine ⟨b,off,ha,fun j x hj => ?_⟩
 have:=hc j x hj
 exact ⟨hk.cell this.1 (hS _ _ _ ha),hk.cell this.2.1 (hS _ _ _ ha),hk.cell this.2.2 (hS _ _ _ ha)⟩
theorem jN (w : World) (y : (Int × ByteArray × (Option Addr × Nat × Nat))) : ∀ j u,(ir y)[j]? = some u → (w.alloc (.cells #[.int .i64 y.1,.string y.2.1,.slice y.2.2.1 y.2.2.2.1 y.2.2.2.2] 42)).cell? ((⟨w.heap.size,0,none⟩ : Addr).add j) = some u:=by
 intro j u hj;have hlt:=au hj;have hl : (ir y).length = 3:=rfl;rw [hl] at hlt
 have hadd : (⟨w.heap.size,0,none⟩ : Addr).add j = ⟨w.heap.size,j,none⟩:=by unfold Addr.add; split <;> simp_all
 rw [hadd];have hb:=(MapKept.heap_alloc w (.cells #[.int .i64 y.1,.string y.2.1,.slice y.2.2.1 y.2.2.2.1 y.2.2.2.2] 42)).1
 simp only [World.cell?,hb]
 simpa [ir] using hj
theorem jE (y : (Int × ByteArray × (Option Addr × Nat × Nat))) : ∀ u ∈ ir y,u.oneCell' = true:=by
 intro u hu
 simp [ir] at hu
 rcases hu with rfl | rfl | rfl <;> rfl
theorem iu (R g cap : Nat) (bs : List Int) (ha : Option Addr) (n hc : Nat) (most : Int) (f : Value) (w : World) (h : Wr w R g cap bs) (hm : most < (n : Int)) :
  Calls Tryz.prog 123 #[cW R,.slice ha n hc,.int .i64 most,f] w (aG R g 20 w):=by
 have hmc:=aQ;have hcc:=aX;have HC:=hid (cE R g cap bs n most w h hm);clear h
 go_enter Tryz.func123,Tryz.ntmps123
 go_wp2_with fail;refine HC.out.mono ?_;rintro e w2 ⟨⟨p,rfl⟩,hk⟩;exact ⟨rfl,⟨p,rfl⟩,hk⟩
def dG (ps : List Addr) (W W' : World) : Prop:=∀ p ∈ ps,∀ v,W.cell? p = some v → W'.cell? p = some v ∧ W'.frozen? p = W.frozen? p
theorem dG.trans {ps : List Addr} {A B C : World} (h : dG ps A B) (k : dG ps B C) : dG ps A C:=fun p hp v hv => by
 obtain ⟨h1,h2⟩:=h p hp v hv;obtain ⟨k1,k2⟩:=k p hp v h1;exact ⟨k1,k2.trans h2⟩
theorem dG.turned {ps : List Addr} (W : World) (l : Nat) (o o' : Obj) (h : W.heap[l]? = some o) (ho : o.isCells = false) : dG ps W (W.putObj l o'):=fun p _ v hv =>
 have hr : ∀ r,some l = some r → ∃ q : Obj,W.heap[r]? = some q ∧ q.isCells = false:=fun r e => by cases e; exact ⟨o,h,ho⟩
 ⟨cell_kept hv (grownBy_putObj' W l o') hr,frozen_kept hv (grownBy_putObj' W l o') hr⟩
def zl {α : Type} (F : Fence) (n : Nat) (P : Program) (gf : Nat) (lb : Array Value) (encs : α → Array Value) (c : Addr) (ps : List Addr) (xs : List α) (W : World) : Prop :=
 ∀ (l : Nat) (J : List α → World → Prop) (Jx : World → Prop) (W1 : World),dG ps W W1 →
  (∀ r A v,J r A → J r (A.setCell c v)) →
  (∀ x r A,J (x :: r) A → YieldAt F (n - 1) P l (encs x) A fun e B => (e = .returned (.bool true) ∧ J r B ∧ dG ps A B) ∨ (e = .returned (.bool false) ∧ Jx B)) →
  J xs W1 →
  CallsIn F n P gf (#[.func (.yield l) #[] #[]] ++ lb) W1 fun e B => (∃ v,e = .returned v) ∧ (J [] B ∨ Jx B)
def Leaves (B : Nat) (ps : List Addr) (I : World → Prop) (Ix : Code → World → Prop) (W : World) : Exit → Act → World → Prop
 | .normal,_,W' => KeepsFrom B W W' ∧ dG ps W W' ∧ I W'
 | .ret,_,W' => KeepsFrom B W W' ∧ Ix .ret W'
 | .exit _,_,_ => False
 | .goto _,_,_ => False
 | .panic _,_,_ => False
 | .outgrown,_,_ => False
theorem qi {α : Type} {F : Fence} {n : Nat} {P : Program} {g : Operand} {prm : Array Tmp} {assign body : Code} {Q : Exit → Act → World → Prop} {a : Act} {w : World}
  (hro : F.round = none) (h1 : 1 ≤ n) {gf : Nat} {lb : Array Value} (hg : a.eval g = .func (.func gf) #[] lb) (hFg : F.fn gf) (eg : ∀ args w,(callFunc gf args).run P w = .ok (.enter gf args) w)
  {encs : α → Array Value} {c : Addr} {ps : List Addr} {xs : List α} (hps : ∀ x,(encs x).size = prm.size)
  (hseq : zl F (n - 1) P gf lb encs c ps xs w)
  (I : List α → World → Prop) (Ix : Code → World → Prop) (hI : OwnFrom w.heap.size I) (hIx : OwnFrom w.heap.size Ix)
  (hIc : ∀ r A v,I r A → I r (A.setCell c v)) (h0 : I xs w) (a₁ : α → Act)
  (hassign : ∀ (l : Nat) (x : α) (W : World) (K : Act → World → Prop),K (a₁ x) W →
   assign.wpIn (F.inRound l) (n - 1 - 1) P (Exit.then K (fun _ _ _ => False)) { tmps:=(prm.zip (encs x)).foldl (fun t (p,v) => t.setIfInBounds p v) a.tmps,defers:=[] } W)
  (hbody : ∀ (l : Nat) (x : α) (r : List α) (W : World),I (x :: r) W → body.wpIn (F.inRound l) (n - 1 - 1) P (Leaves w.heap.size ps (I r) Ix W) (a₁ x) W)
  (hdone : ∀ (D : Nat) (W : World),w.heap.size ≤ D → I [] W → W.heap[D]? = some (.deferred (some [])) → Q .normal { a with defers:={ target:=.collected D,args:=#[] } :: a.defers } W)
  (hstop : ∀ (D : Nat) (j : Code) (W : World),w.heap.size ≤ D → Ix j W → W.heap[D]? = some (.deferred (some [])) → j.wpIn F n P Q { a with defers:={ target:=.collected D,args:=#[] } :: a.defers } W) :
  (Code.rangeFunc g prm assign body).wpIn F n P Q a w:=by
 refine wpIn_rangeFunc fun fn hfn => ?_
 rw [hro]
 let record : LoopState → Option Code → Loop:=fun st pe => { state:=st,pending:=pe,fn,tmps:=a.tmps,params:=prm,assign,body,defers:=w.heap.size }
 let D:=w.heap.size
 let L:=w.heap.size + 1
 let W0:=(w.alloc (.deferred (some []))).alloc (.loop (record .ready none))
 let Book : Loop → World → Prop:=fun rc W => W.heap[L]? = some (.loop rc) ∧ W.heap[D]? = some (.deferred (some []))
 have hbook : Book (record .ready none) W0:=by
  constructor
  ·have:=World.alloc_heap_new (w.alloc (.deferred (some []))) (.loop (record .ready none))
   rwa [World.size_alloc] at this
  ·exact (Below.heap_alloc _ _ _ (by simp [D])).trans (World.alloc_heap_new w _)
 have turn : ∀ {rc rc' : Loop} {W : World},Book rc W → Book rc' (W.putObj L (.loop rc')):=fun h =>
  ⟨World.putObj_heap_same (Array.getElem?_eq_some_iff.1 h.1).1,(World.putObj_heap_other (by simp [L,D])).trans h.2⟩
 have over : ∀ {rc : Loop} {W W' : World},Book rc W → KeepsFrom D W W' → Book rc W':=fun h k =>
  ⟨k.same _ _ (by simp [L,D]) h.1 rfl,k.same _ _ (Nat.le_refl _) h.2 rfl⟩
 have cells : ∀ {rc : Loop} {W : World} (v : Value),Book rc W → Book rc (W.setCell c v):=fun v h =>
  ⟨(KeepsOthers.setCell _ _ _).same _ _ h.1 rfl,(KeepsOthers.setCell _ _ _).same _ _ h.2 rfl⟩
 have hk0 : dG ps w W0:=fun p _ v hv => by
  have g1:=World.grownBy_alloc w (.deferred (some [])) none;have g2:=World.grownBy_alloc (w.alloc (.deferred (some []))) (.loop (record .ready none)) none
  have e1:=cell_kept hv g1 (fun r e => by cases e)
  exact ⟨cell_kept e1 g2 (fun r e => by cases e),(frozen_kept e1 g2 (fun r e => by cases e)).trans (frozen_kept hv g1 (fun r e => by cases e))⟩
 refine ⟨L,[{ target:=.collected D,args:=#[] }],W0,{ target:=.fn (.func gf) lb,args:=#[.func (.yield L) #[] #[]] },W0,gf,#[.func (.yield L) #[] #[]] ++ lb,W0,
  run_enterLoop_outer _ _ _ _ _,?_,?_,?_,fun _ => h1,?_⟩
 ·simp only [resolve,hg]; simp [go_sem]
 ·intro f' hf'; simp [Target.leads] at hf'; subst hf'; exact hFg
 ·simp [invoke,go_sem,eg]
 refine (hseq L (fun r W => I r W ∧ Book (record .ready none) W) (fun W => ∃ j,Ix j W ∧ Book (record .done (some j)) W) W0 hk0
  (fun r A v h => ⟨hIc r A v h.1,cells v h.2⟩) ?_ ⟨hI.alloc _ (hI.alloc _ h0),hbook⟩).mono ?_
 ·
  rintro x r W ⟨hi,hb⟩;have hy:=run_yield (P:=P) (args:=encs x) hb.1 (hps x);refine ⟨fn,_,assign,body,hy,roundIn_of_wpIn hfn (hassign _ x W _ ⟨_,run_beginRound hb.1 rfl,?_⟩)⟩
  have hb2 : Book { record .ready none with state:=.busy } (W.putObj L (.loop { record .ready none with state:=.busy })):=turn hb
  refine wpIn_mono (hbody _ x r _ (hI.putObj _ hi (by simp [L]) hb.1 rfl)) ?_
  rintro e a3 W3 hp
  cases e with
  | normal =>
   obtain ⟨hk3,hkp3,hi3⟩:=hp;have hb3:=over hb2 hk3
   exact ⟨_,_,run_endRound none hb3.1,.inl ⟨rfl,⟨hI.putObj _ hi3 (by simp [L]) hb3.1 rfl,turn hb3⟩,((dG.turned _ _ _ _ hb.1 rfl).trans hkp3).trans (dG.turned _ _ _ _ hb3.1 rfl)⟩⟩
  | ret =>
   obtain ⟨hk3,hi3⟩:=hp;have hb3:=over hb2 hk3
   exact ⟨_,_,run_endRound (some .ret) hb3.1,.inr ⟨rfl,.ret,hIx.putObj _ hi3 (by simp [L]) hb3.1 rfl,turn hb3⟩⟩
  | exit id => exact hp.elim
  | goto t => exact hp.elim
  | panic ch => exact hp.elim
  | outgrown => exact hp.elim
 ·
  rintro e W2 ⟨⟨v,rfl⟩,(⟨hi,hb⟩ | ⟨j,hi,hb⟩)⟩
  ·exact ⟨none,_,run_endLoop hb.1 (by simp [record]),hdone D _ (Nat.le_refl _) (hI.putObj _ hi (by simp [L]) hb.1 rfl) (turn (rc':=_) hb).2⟩
  ·exact ⟨some j,_,run_endLoop hb.1 (by simp [record]),hstop D j _ (Nat.le_refl _) (hIx.putObj _ hi (by simp [L]) hb.1 rfl) (turn (rc':=_) hb).2⟩
def pieces : List UInt8 → List (List UInt8)
 | [] => [[]]
 | b :: l => if b == 32 then [] :: pieces l else match pieces l with
  | [] => [[b]]
  | p :: r => (b :: p) :: r
theorem AD : ∀ l,pieces l ≠ []
 | [] => by simp [pieces]
 | b :: l => by
  unfold pieces
  split
  ·simp
  ·split <;> simp
theorem gk : ∀ (l : List UInt8),Lib.indexByte l 32 = -1 ∨ (0 ≤ Lib.indexByte l 32 ∧ Lib.indexByte l 32 < l.length)
 | [] => .inl rfl
 | b :: l => by
  have:=gk l
  unfold Lib.indexByte
  split
  ·right; simp
  ·split
   ·exact .inl rfl
   ·rename_i h
    simp at h
    right; simp; omega
theorem jG : ∀ (l : List UInt8),Lib.indexByte l 32 = -1 → pieces l = [l]
 | [],_ => rfl
 | b :: l,h => by
  have hr:=gk l;unfold Lib.indexByte at h
  split at h
  ·simp at h
  ·rename_i hb
   split at h
   ·rename_i hi
    have:=jG l (by simpa using hi)
    unfold pieces;rw [if_neg hb,this]
   ·rename_i hi
    simp at hi
    omega
theorem jD : ∀ (l : List UInt8) (k : Nat),Lib.indexByte l 32 = k → pieces l = l.take k :: pieces (l.drop (k + 1))
 | [],k,h => by simp [Lib.indexByte] at h
 | b :: l,k,h => by
  have hr:=gk l;unfold Lib.indexByte at h
  split at h
  ·rename_i hb
   obtain rfl : k = 0:=by omega
   rw [pieces,if_pos hb]
   simp
  ·rename_i hb
   split at h
   ·omega
   ·rename_i hi
    simp at hi
    obtain ⟨m,rfl⟩ : ∃ m,k = m + 1:=⟨k - 1,by omega⟩
    have:=jD l m (by omega)
    rw [pieces,if_neg hb,this]
    simp
def bI (s : ByteArray) : List ByteArray:=(pieces s.data.toList).map fun l => ⟨l.toArray⟩
theorem xS (s : ByteArray) (k : Nat) : s.extract 0 k = ⟨(s.data.toList.take k).toArray⟩:=by
 apply dZ; simp [ByteArray.data_extract,Array.toList_extract]
theorem xT (s : ByteArray) (k : Nat) : s.extract k s.size = ⟨(s.data.toList.drop k).toArray⟩:=by
 apply dZ
 simp [ByteArray.data_extract,Array.toList_extract]
 rw [List.take_of_length_le]
 have:=dB s
 simp only [List.length_drop]
 omega
theorem mH (s : ByteArray) (h : Lib.indexByte s.data.toList 32 = -1) : bI s = [s]:=by
 simp [bI,jG _ h]
theorem nh (s : ByteArray) (k : Nat) (h : Lib.indexByte s.data.toList 32 = k) : bI s = s.extract 0 k :: bI (s.extract (k + 1) s.size):=by
 rw [xS,xT]
 simp [bI,jD _ k h]
theorem jM : ∀ (l : List UInt8) (p : List UInt8),p ∈ pieces l → p.length ≤ l.length
 | [],p,h => by simp [pieces] at h; simp [h]
 | b :: l,p,h => by
  have ih:=jM l;unfold pieces at h
  split at h
  ·simp only [List.mem_cons] at h
   rcases h with rfl | h
   ·simp
   ·have:=ih p h; simp; omega
  ·split at h
   ·simp at h; simp [h]
   ·rename_i q r hq
    simp only [List.mem_cons] at h
    rcases h with rfl | h
    ·have:=ih q (by rw [hq]; simp); simp; omega
    ·have:=ih p (by rw [hq]; simp [h]); simp; omega
theorem og (s p : ByteArray) (h : p ∈ bI s) : p.size ≤ s.size:=by
 unfold bI at h;obtain ⟨l,hl,rfl⟩:=List.mem_map.1 h
 have:=jM _ _ hl
 rw [dB,dB]
 simpa using this
end Go.Proofs.YtepnnenohjfkbaaGreatDoor
