/-
  Texts Lin Lfu Feed Pieces Lib Split.
-/
import Derived.KernelRfl
import Derived.Lib.Bytealg
import Derived.LoopIn
import Derived.LoopNIn
import Derived.OwnWalkIn
import Derived.RangeFuncCalls
import Derived.RangeFuncLeaves
import Derived.RangeFuncWrites
import Derived.RowKit
import Derived.Shelf.Abstract
import Derived.Shelf.RegionOpen
import Derived.TacticsInMore
import Derived.Test.YtheefojaplnnoaaGreatDoorC00
import Derived.Test.YtheefojaplnnoaaGreatDoorProg
import Derived.WalkKit
import Derived.Test.YtheefojaplnnoaaGreatDoorC01
import Derived.Test.YtheefojaplnnoaaGreatDoorC04
set_option linter.unusedVariables false
set_option maxRecDepth 100000
set_option maxHeartbeats 16000000
namespace Go.Proofs.YtheefojaplnnoaaGreatDoor
open Go.RowKit
theorem LG : ∃ i,Tryz.prog.info? 75 = some i ∧ i.zero = some (.agg #[.int .u8 0,.int .i64 0,.slice none 0 0]) ∧ i.size = 3 ∧ i.bytes = 40:=by
 have h : (Tryz.prog.info? 75).map (fun i => (i.zero,i.size,i.bytes)) = some (some (.agg #[.int .u8 0,.int .i64 0,.slice none 0 0]),3,40):=ai
 cases hi : Tryz.prog.info? 75 with
 | none => rw [hi] at h; cases h
 | some i => rw [hi] at h; simp at h; exact ⟨i,rfl,h.1,h.2.1,h.2.2⟩
def oG (y : (Int × Int × (Option Addr × Nat × Nat))) : List Value:=[.int .u8 y.1,.int .i64 y.2.1,.slice y.2.2.1 y.2.2.2.1 y.2.2.2.2]
abbrev OM (x : (Int × Int × (Option Addr × Nat × Nat) × List Int)) : Value:=.agg #[.int .u8 x.1,.int .i64 x.2.1,.slice x.2.2.1.1 x.2.2.1.2.1 x.2.2.1.2.2]
abbrev PK (y : (Int × Int × (Option Addr × Nat × Nat))) : Value:=.agg #[.int .u8 y.1,.int .i64 y.2.1,.slice y.2.2.1 y.2.2.2.1 y.2.2.2.2]
def gV (w : World) (a : Option Addr) (n : Nat) (xs : List (Int × Int × (Option Addr × Nat × Nat) × List Int)) : Prop :=
 xs.length = n ∧ (n = 0 ∨ ∃ b off,a = some ⟨b,off,none⟩ ∧ ∀ (j : Nat) x,xs[j]? = some x → w.cell? ⟨b,off + j * 3,none⟩ = some (.int .u8 x.1) ∧ w.cell? ⟨b,off + j * 3 + 1,none⟩ = some (.int .i64 x.2.1) ∧ w.cell? ⟨b,off + j * 3 + 2,none⟩ = some (.slice x.2.2.1.1 x.2.2.1.2.1 x.2.2.1.2.2))
theorem gV.kept {S : Nat → Prop} {w w' : World} {a : Option Addr} {n : Nat} {xs : List (Int × Int × (Option Addr × Nat × Nat) × List Int)} (h : gV w a n xs) (hk : aP S w w') (hS : ∀ b off c,nz n a = some ⟨b,off,c⟩ → ¬ S b) : gV w' a n xs:=by
 refine ⟨h.1,h.2.imp id ?_⟩;rintro ⟨b,off,ha,hc⟩
 refine ⟨b,off,ha,fun j x hj => ?_⟩
 have ha:=Mc (n:=n) (by have:=h.1; have:=(List.getElem?_eq_some_iff.1 hj).1; omega) ha
 have:=hc j x hj
 exact ⟨hk.cell this.1 (hS _ _ _ ha),hk.cell this.2.1 (hS _ _ _ ha),hk.cell this.2.2 (hS _ _ _ ha)⟩
theorem wn (w : World) (y : (Int × Int × (Option Addr × Nat × Nat))) : ∀ j u,(oG y)[j]? = some u → (w.alloc (aR y.1 y.2.1 y.2.2.1 y.2.2.2.1 y.2.2.2.2)).cell? ((⟨w.heap.size,0,none⟩ : Addr).add j) = some u:=by
 intro j u hj;have hlt:=aF hj;have hl : (oG y).length = 3:=rfl;rw [hl] at hlt;have hadd : (⟨w.heap.size,0,none⟩ : Addr).add j = ⟨w.heap.size,j,none⟩:=ic;rw [hadd];have hb:=(MapKept.heap_alloc w (aR y.1 y.2.1 y.2.2.1 y.2.2.2.1 y.2.2.2.2)).1
 simp only [World.cell?,hb]
 simpa [oG] using hj
theorem wP (y : (Int × Int × (Option Addr × Nat × Nat))) : ∀ u ∈ oG y,u.oneCell' = true:=by
 intro u hu
 simp [oG] at hu
 rcases hu with rfl | rfl | rfl <;> rfl
def zI (R g : Nat) (w : World) (K : Nat) (cs : Array Value) (bs : List Int) (n : Nat) (xs : List (Int × Int × (Option Addr × Nat × Nat) × List Int)) (enc : (Int × Int × (Option Addr × Nat × Nat) × List Int) → List Int) (Ok : (Int × Int × (Option Addr × Nat × Nat) × List Int) → (Int × Int × (Option Addr × Nat × Nat)) → Prop) (j : Nat) (x : (Int × Int × (Option Addr × Nat × Nat) × List Int)) : Prop :=
 ∀ (ys : List (Int × Int × (Option Addr × Nat × Nat))) (W : World) (g1 cap1 : Nat) (aa : Option Addr) (ac : Nat),ys.length = j → (∀ (i : Nat) y,ys[i]? = some y → ∃ x',xs[i]? = some x' ∧ Ok x' y) → Stp R g g1 w W → Wr W R g1 cap1 (bs ++ au n ++ (xs.take j).flatMap enc) →
  W.ownsRow 0 75 3 (.slice aa j ac) j (ys.flatMap oG) → (∀ b,aa = some b → w.heap.size ≤ b.block ∧ b.block ≠ g1) →
  Calls Tryz.prog K (#[OM x,.slice aa j ac] ++ cs) W (fun e w' => ∃ y,e = .returned (PK y) ∧ Ok x y ∧ ∃ g' cap',Wr w' R g' cap' (bs ++ au n ++ (xs.take j).flatMap enc ++ enc x) ∧ Stp R g1 g' W w')
def GM (R g : Nat) (w : World) (K : Nat) (cs : Array Value) (bs : List Int) (n : Nat) (xs : List (Int × Int × (Option Addr × Nat × Nat) × List Int)) (enc : (Int × Int × (Option Addr × Nat × Nat) × List Int) → List Int) (Ok : (Int × Int × (Option Addr × Nat × Nat) × List Int) → (Int × Int × (Option Addr × Nat × Nat)) → Prop) (j : Nat) (x : (Int × Int × (Option Addr × Nat × Nat) × List Int)) (er : Int) : Prop :=
 ∀ (ys : List (Int × Int × (Option Addr × Nat × Nat))) (W : World) (g1 cap1 : Nat) (aa : Option Addr) (ac : Nat),ys.length = j → (∀ (i : Nat) y,ys[i]? = some y → ∃ x',xs[i]? = some x' ∧ Ok x' y) → Stp R g g1 w W → Wr W R g1 cap1 (bs ++ au n ++ (xs.take j).flatMap enc) →
  W.ownsRow 0 75 3 (.slice aa j ac) j (ys.flatMap oG) → (∀ b,aa = some b → w.heap.size ≤ b.block ∧ b.block ≠ g1) →
  Calls Tryz.prog K (#[OM x,.slice aa j ac] ++ cs) W (aJ R g1 er W)
theorem vh (R g cap : Nat) (bs : List Int) (ha : Option Addr) (n hc : Nat) (most : Int) (K : Nat) (cs : Array Value) (w : World) (xs : List (Int × Int × (Option Addr × Nat × Nat) × List Int)) (enc : (Int × Int × (Option Addr × Nat × Nat) × List Int) → List Int) (Ok : (Int × Int × (Option Addr × Nat × Nat) × List Int) → (Int × Int × (Option Addr × Nat × Nat)) → Prop) (M : Nat)
  (h : Wr w R g cap bs) (hn : n ≤ 100000) (hm : (n : Int) ≤ most) (hmem : gV w ha n xs) (hne : ∀ b off c,nz n ha = some ⟨b,off,c⟩ → b ≠ R ∧ b ≠ g)
  (hK : ∀ args w,(callFunc K args).run Tryz.prog w = .ok (.enter K args) w) (hlen : ∀ (j : Nat) x,xs[j]? = some x → (enc x).length ≤ M) (hM : M ≤ 1000000) (hb : bs.length + 200000000000 ≤ 1099511627776)
  (heach : ∀ (j : Nat) x,xs[j]? = some x → zI R g w K cs bs n xs enc Ok j x) :
  Calls Tryz.prog 194 #[cW R,.slice ha n hc,.int .i64 most,.func (.func K) #[] cs] w fun e w' => ∃ (aa : Option Addr) (ac : Nat) (ys : List (Int × Int × (Option Addr × Nat × Nat))),e = .returned (.slice aa n ac) ∧ ys.length = n ∧ (∀ (i : Nat) y,ys[i]? = some y → ∃ x,xs[i]? = some x ∧ Ok x y) ∧
   w'.ownsRow 0 75 3 (.slice aa n ac) n (ys.flatMap oG) ∧ ∃ g' cap',(∀ b,aa = some b → w.heap.size ≤ b.block ∧ b.block ≠ g') ∧ Wr w' R g' cap' (bs ++ au n ++ xs.flatMap enc) ∧ Stp R g g' w w':=by
 have hmc:=bg;have hcc:=bN;have HC:=hid (bC R g cap bs n most w h hm ae ae);have hRl:=h.lt;have hgl:=h.g_lt;have hxl:=hmem.1;have HM:=hid hmem;have HNE:=hid hne;have HE:=hid heach;obtain ⟨i0,hi,hz0,hz1,hz2⟩:=LG;clear h hmem heach hne
 go_enter Tryz.func194,Tryz.ntmps194
 go_wp2_with fail;refine HC.out.mono ?_;rintro e w2 ⟨rfl,g1,cap1,hw2,hs2⟩;have W2:=hid hw2;have S2:=hid hs2;clear hw2 hs2 HC hmc hcc;go_wp2_with fail
 go_loopw [9,17] (fun o i wr => ∃ (j : Nat) (ys : List (Int × Int × (Option Addr × Nat × Nat))) (aa : Option Addr) (ac g1 cap1 : Nat),j ≤ n ∧ i = .int .i64 j ∧ o = .slice aa j ac ∧ ys.length = j ∧ (∀ (i : Nat) y,ys[i]? = some y → ∃ x,xs[i]? = some x ∧ Ok x y) ∧
   wr.ownsRow 0 75 3 (.slice aa j ac) j (ys.flatMap oG) ∧ (∀ b,aa = some b → w.heap.size ≤ b.block ∧ b.block ≠ g1) ∧ Wr wr R g1 cap1 (bs ++ au n ++ (xs.take j).flatMap enc) ∧ Stp R g g1 w wr) (fun _ i _ => n - (intOf i).toNat)
 case atStart => exact ⟨0,[],none,0,g1,cap1,ae,rfl,rfl,rfl,(fun i y h => eY),World.ownsRow_nil _ _ _ _,(fun b h => bG),fw,S2.out⟩
 case round =>
  obtain ⟨j,ys,aa,ac,g3,cap3,hj,rfl,rfl,hyl,hys,hrow,hab,hwr,hst⟩:=hrel;have HY:=hid hys;have HRW:=hid hrow;have HAB:=hid hab;have HWR:=hid hwr;have HST:=hid hst;clear hys hrow hab hwr hst W2 S2
  by_cases hlt : j < n
  ·obtain ⟨x,hx⟩ : ∃ x,xs[j]? = some x:=⟨_,aD ae⟩
   obtain ⟨b,off,rfl,hcell⟩ : ∃ b off,ha = some ⟨b,off,none⟩ ∧ ∀ (j : Nat) x,xs[j]? = some x → wr.cell? ⟨b,off + j * 3,none⟩ = some (.int .u8 x.1) ∧ wr.cell? ⟨b,off + j * 3 + 1,none⟩ = some (.int .i64 x.2.1) ∧ wr.cell? ⟨b,off + j * 3 + 2,none⟩ = some (.slice x.2.2.1.1 x.2.2.1.2.1 x.2.2.1.2.2):=by
    exact dU
   have hcj:=hcell j x hx;have hbl:=block_lt_of_cell hcj.1;clear hcell;obtain ⟨v0,v1,v2⟩:=hcj;have BN:=hid (ag wr (aR x.1 x.2.1 x.2.2.1.1 x.2.2.1.2.1 x.2.2.1.2.2))
   have HC1:=hid (HE.out j x hx ys (wr.alloc (aR x.1 x.2.1 x.2.2.1.1 x.2.2.1.2.1 x.2.2.1.2.2)) g3 cap3 aa ac hyl HY.out (HST.out.trans (Stp.of_below BN.out)) (HWR.out.later BN.out) (aA HRW.out (fun B hB => BN.out.block B (ax HRW.out hB))) HAB.out)
   exact LY
  ·exact nT
theorem zK (R g cap : Nat) (bs : List Int) (ha : Option Addr) (n hc : Nat) (most : Int) (K : Nat) (cs : Array Value) (w : World) (xs : List (Int × Int × (Option Addr × Nat × Nat) × List Int)) (enc : (Int × Int × (Option Addr × Nat × Nat) × List Int) → List Int) (Ok : (Int × Int × (Option Addr × Nat × Nat) × List Int) → (Int × Int × (Option Addr × Nat × Nat)) → Prop) (M : Nat)
  (h : Wr w R g cap bs) (hn : n ≤ 100000) (hm : (n : Int) ≤ most) (hmem : gV w ha n xs) (hne : ∀ b off c,nz n ha = some ⟨b,off,c⟩ → b ≠ R ∧ b ≠ g)
  (hK : ∀ args w,(callFunc K args).run Tryz.prog w = .ok (.enter K args) w) (hlen : ∀ (j : Nat) x,xs[j]? = some x → (enc x).length ≤ M) (hM : M ≤ 1000000) (hb : bs.length + 200000000000 ≤ 1099511627776)
  (k : Nat) (xk : (Int × Int × (Option Addr × Nat × Nat) × List Int)) (er : Int) (hk : xs[k]? = some xk) (heach : ∀ (j : Nat) x,xs[j]? = some x → j < k → zI R g w K cs bs n xs enc Ok j x) (hno : GM R g w K cs bs n xs enc Ok k xk er) :
  Calls Tryz.prog 194 #[cW R,.slice ha n hc,.int .i64 most,.func (.func K) #[] cs] w (aJ R g er w):=by
 have hkn:=aF hk;have hmc:=bg;have hcc:=bN;have HC:=hid (bC R g cap bs n most w h hm ae ae);have hRl:=h.lt;have hgl:=h.g_lt;have hxl:=hmem.1;have HM:=hid hmem;have HNE:=hid hne;have HE:=hid heach;have HN:=hid hno;obtain ⟨i0,hi,hz0,hz1,hz2⟩:=LG;clear h hmem heach hne hno
 go_enter Tryz.func194,Tryz.ntmps194
 go_wp2_with fail;refine HC.out.mono ?_;rintro e w2 ⟨rfl,g1,cap1,hw2,hs2⟩;have W2:=hid hw2;have S2:=hid hs2;clear hw2 hs2 HC hmc hcc;go_wp2_with fail
 go_loopw [9,17] (fun o i wr => ∃ (j : Nat) (ys : List (Int × Int × (Option Addr × Nat × Nat))) (aa : Option Addr) (ac g1 cap1 : Nat),j ≤ k ∧ i = .int .i64 j ∧ o = .slice aa j ac ∧ ys.length = j ∧ (∀ (i : Nat) y,ys[i]? = some y → ∃ x,xs[i]? = some x ∧ Ok x y) ∧
   wr.ownsRow 0 75 3 (.slice aa j ac) j (ys.flatMap oG) ∧ (∀ b,aa = some b → w.heap.size ≤ b.block ∧ b.block ≠ g1) ∧ Wr wr R g1 cap1 (bs ++ au n ++ (xs.take j).flatMap enc) ∧ Stp R g g1 w wr) (fun _ i _ => n - (intOf i).toNat)
 case atStart => exact ⟨0,[],none,0,g1,cap1,ae,rfl,rfl,rfl,(fun i y h => eY),World.ownsRow_nil _ _ _ _,(fun b h => bG),fw,S2.out⟩
 case round =>
  obtain ⟨j,ys,aa,ac,g3,cap3,hj,rfl,rfl,hyl,hys,hrow,hab,hwr,hst⟩:=hrel;have HY:=hid hys;have HRW:=hid hrow;have HAB:=hid hab;have HWR:=hid hwr;have HST:=hid hst;clear hys hrow hab hwr hst W2 S2;have hlt : j < n:=ae
  ·obtain ⟨x,hx⟩ : ∃ x,xs[j]? = some x:=⟨_,aD ae⟩
   obtain ⟨b,off,rfl,hcell⟩ : ∃ b off,ha = some ⟨b,off,none⟩ ∧ ∀ (j : Nat) x,xs[j]? = some x → wr.cell? ⟨b,off + j * 3,none⟩ = some (.int .u8 x.1) ∧ wr.cell? ⟨b,off + j * 3 + 1,none⟩ = some (.int .i64 x.2.1) ∧ wr.cell? ⟨b,off + j * 3 + 2,none⟩ = some (.slice x.2.2.1.1 x.2.2.1.2.1 x.2.2.1.2.2):=by
    exact dU
   have hcj:=hcell j x hx;have hbl:=block_lt_of_cell hcj.1;clear hcell;obtain ⟨v0,v1,v2⟩:=hcj;have BN:=hid (ag wr (aR x.1 x.2.1 x.2.2.1.1 x.2.2.1.2.1 x.2.2.1.2.2))
   by_cases hjk : j < k
   ·skip
    have HC1:=hid (HE.out j x hx hjk ys (wr.alloc (aR x.1 x.2.1 x.2.2.1.1 x.2.2.1.2.1 x.2.2.1.2.2)) g3 cap3 aa ac hyl HY.out (HST.out.trans (Stp.of_below BN.out)) (HWR.out.later BN.out) (aA HRW.out (fun B hB => BN.out.block B (ax HRW.out hB))) HAB.out)
    exact LY
   ·obtain rfl : j = k:=ae;obtain rfl : x = xk:=lJ
    have HC1:=hid (HN.out ys (wr.alloc (aR x.1 x.2.1 x.2.2.1.1 x.2.2.1.2.1 x.2.2.1.2.2)) g3 cap3 aa ac hyl HY.out (HST.out.trans (Stp.of_below BN.out)) (HWR.out.later BN.out) (aA HRW.out (fun B hB => BN.out.block B (ax HRW.out hB))) HAB.out)
    exact oa
theorem tq (R g cap : Nat) (bs : List Int) (ha : Option Addr) (n hc : Nat) (most : Int) (f : Value) (w : World) (h : Wr w R g cap bs) (hm : most < (n : Int)) :
  Calls Tryz.prog 194 #[cW R,.slice ha n hc,.int .i64 most,f] w (aJ R g 20 w):=by
 have hmc:=bg;have hcc:=bN;have HC:=hid (ei R g cap bs n most w h hm);clear h
 go_enter Tryz.func194,Tryz.ntmps194
 exact jo
theorem LM : ∃ i,Tryz.prog.info? 78 = some i ∧ i.zero = some (.agg #[.int .i64 0,.string ⟨#[]⟩,.slice none 0 0]) ∧ i.size = 3 ∧ i.bytes = 48:=by
 have h : (Tryz.prog.info? 78).map (fun i => (i.zero,i.size,i.bytes)) = some (some (.agg #[.int .i64 0,.string ⟨#[]⟩,.slice none 0 0]),3,48):=ai
 cases hi : Tryz.prog.info? 78 with
 | none => rw [hi] at h; cases h
 | some i => rw [hi] at h; simp at h; exact ⟨i,rfl,h.1,h.2.1,h.2.2⟩
def oL (y : (Int × ByteArray × (Option Addr × Nat × Nat))) : List Value:=[.int .i64 y.1,.string y.2.1,.slice y.2.2.1 y.2.2.2.1 y.2.2.2.2]
abbrev OU (x : (Int × ByteArray × (Option Addr × Nat × Nat) × List (Int × Int × (Option Addr × Nat × Nat) × List Int))) : Value:=.agg #[.int .i64 x.1,.string x.2.1,.slice x.2.2.1.1 x.2.2.1.2.1 x.2.2.1.2.2]
abbrev PH (y : (Int × ByteArray × (Option Addr × Nat × Nat))) : Value:=.agg #[.int .i64 y.1,.string y.2.1,.slice y.2.2.1 y.2.2.2.1 y.2.2.2.2]
def kK (w : World) (a : Option Addr) (n : Nat) (xs : List (Int × ByteArray × (Option Addr × Nat × Nat) × List (Int × Int × (Option Addr × Nat × Nat) × List Int))) : Prop :=
 xs.length = n ∧ (n = 0 ∨ ∃ b off,a = some ⟨b,off,none⟩ ∧ ∀ (j : Nat) x,xs[j]? = some x → w.cell? ⟨b,off + j * 3,none⟩ = some (.int .i64 x.1) ∧ w.cell? ⟨b,off + j * 3 + 1,none⟩ = some (.string x.2.1) ∧ w.cell? ⟨b,off + j * 3 + 2,none⟩ = some (.slice x.2.2.1.1 x.2.2.1.2.1 x.2.2.1.2.2))
theorem kK.kept {S : Nat → Prop} {w w' : World} {a : Option Addr} {n : Nat} {xs : List (Int × ByteArray × (Option Addr × Nat × Nat) × List (Int × Int × (Option Addr × Nat × Nat) × List Int))} (h : kK w a n xs) (hk : aP S w w') (hS : ∀ b off c,a = some ⟨b,off,c⟩ → ¬ S b) : kK w' a n xs:=by
 exact EZ
theorem vX (w : World) (y : (Int × ByteArray × (Option Addr × Nat × Nat))) : ∀ j u,(oL y)[j]? = some u → (w.alloc (bf y.1 y.2.1 y.2.2.1 y.2.2.2.1 y.2.2.2.2)).cell? ((⟨w.heap.size,0,none⟩ : Addr).add j) = some u:=by
 intro j u hj;have hlt:=aF hj;have hl : (oL y).length = 3:=rfl;rw [hl] at hlt;have hadd : (⟨w.heap.size,0,none⟩ : Addr).add j = ⟨w.heap.size,j,none⟩:=ic;rw [hadd];have hb:=(MapKept.heap_alloc w (bf y.1 y.2.1 y.2.2.1 y.2.2.2.1 y.2.2.2.2)).1
 simp only [World.cell?,hb]
 simpa [oL] using hj
theorem uT (y : (Int × ByteArray × (Option Addr × Nat × Nat))) : ∀ u ∈ oL y,u.oneCell' = true:=by
 intro u hu
 simp [oL] at hu
 rcases hu with rfl | rfl | rfl <;> rfl
theorem mJ (R g cap : Nat) (bs : List Int) (ha : Option Addr) (n hc : Nat) (most : Int) (f : Value) (w : World) (h : Wr w R g cap bs) (hm : most < (n : Int)) :
  Calls Tryz.prog 141 #[cW R,.slice ha n hc,.int .i64 most,f] w (aJ R g 20 w):=by
 have hmc:=bg;have hcc:=bN;have HC:=hid (ei R g cap bs n most w h hm);clear h
 go_enter Tryz.func141,Tryz.ntmps141
 exact jo
def dE (ps : List Addr) (W W' : World) : Prop:=∀ p ∈ ps,∀ v,W.cell? p = some v → W'.cell? p = some v ∧ W'.frozen? p = W.frozen? p
theorem dE.refl (ps : List Addr) (W : World) : dE ps W W:=fun _ _ _ h => ⟨h,rfl⟩
theorem dE.trans {ps : List Addr} {A B C : World} (h : dE ps A B) (k : dE ps B C) : dE ps A C:=fun p hp v hv => by
 obtain ⟨h1,h2⟩:=h p hp v hv;obtain ⟨k1,k2⟩:=k p hp v h1;exact ⟨k1,k2.trans h2⟩
theorem dE.turned {ps : List Addr} (W : World) (l : Nat) (o o' : Obj) (h : W.heap[l]? = some o) (ho : o.isCells = false) : dE ps W (W.putObj l o'):=fun p _ v hv =>
 have hr : ∀ r,some l = some r → ∃ q : Obj,W.heap[r]? = some q ∧ q.isCells = false:=fun r e => by cases e; exact ⟨o,h,ho⟩
 ⟨cell_kept hv (grownBy_putObj' W l o') hr,frozen_kept hv (grownBy_putObj' W l o') hr⟩
def LS {α : Type} (F : Fence) (n : Nat) (P : Program) (gf : Nat) (lb : Array Value) (encs : α → Array Value) (c : Addr) (ps : List Addr) (xs : List α) (W : World) : Prop :=
 ∀ (l : Nat) (J : List α → World → Prop) (Jx : World → Prop) (W1 : World),dE ps W W1 →
  (∀ r A v,J r A → J r (A.setCell c v)) →
  (∀ x r A,J (x :: r) A → YieldAt F (n - 1) P l (encs x) A fun e B => (e = .returned (.bool true) ∧ J r B ∧ dE ps A B) ∨ (e = .returned (.bool false) ∧ Jx B)) →
  J xs W1 →
  CallsIn F n P gf (#[.func (.yield l) #[] #[]] ++ lb) W1 fun e B => (∃ v,e = .returned v) ∧ (J [] B ∨ Jx B)
def Leaves (B : Nat) (ps : List Addr) (I : World → Prop) (Ix : Code → World → Prop) (W : World) : Exit → Act → World → Prop
 | .normal,_,W' => KeepsFrom B W W' ∧ dE ps W W' ∧ I W'
 | .ret,_,W' => KeepsFrom B W W' ∧ Ix .ret W'
 | .exit _,_,_ => False
 | .goto _,_,_ => False
 | .panic _,_,_ => False
 | .outgrown,_,_ => False
theorem om {α : Type} {F : Fence} {n : Nat} {P : Program} {g : Operand} {prm : Array Tmp} {assign body : Code} {Q : Exit → Act → World → Prop} {a : Act} {w : World}
  (hro : F.round = none) (h1 : 1 ≤ n) {gf : Nat} {lb : Array Value} (hg : a.eval g = .func (.func gf) #[] lb) (hFg : F.fn gf) (eg : ∀ args w,(callFunc gf args).run P w = .ok (.enter gf args) w)
  {encs : α → Array Value} {c : Addr} {ps : List Addr} {xs : List α} (hps : ∀ x,(encs x).size = prm.size)
  (hseq : LS F (n - 1) P gf lb encs c ps xs w)
  (I : List α → World → Prop) (Ix : Code → World → Prop) (hI : OwnFrom w.heap.size I) (hIx : OwnFrom w.heap.size Ix)
  (hIc : ∀ r A v,I r A → I r (A.setCell c v)) (h0 : I xs w) (a₁ : α → Act)
  (hassign : ∀ (l : Nat) (x : α) (W : World) (K : Act → World → Prop),K (a₁ x) W →
   assign.wpIn (F.inRound l) (n - 1 - 1) P (Exit.then K (fun _ _ _ => False)) { tmps:=(prm.zip (encs x)).foldl (fun t (p,v) => t.setIfInBounds p v) a.tmps,defers:=[] } W)
  (hbody : ∀ (l : Nat) (x : α) (r : List α) (W : World),I (x :: r) W → body.wpIn (F.inRound l) (n - 1 - 1) P (Leaves w.heap.size ps (I r) Ix W) (a₁ x) W)
  (hdone : ∀ (D : Nat) (W : World),w.heap.size ≤ D → I [] W → W.heap[D]? = some (.deferred (some [])) → Q .normal { a with defers:={ target:=.collected D,args:=#[] } :: a.defers } W)
  (hstop : ∀ (D : Nat) (j : Code) (W : World),w.heap.size ≤ D → Ix j W → W.heap[D]? = some (.deferred (some [])) → j.wpIn F n P Q { a with defers:={ target:=.collected D,args:=#[] } :: a.defers } W) :
  (Code.rangeFunc g prm assign body).wpIn F n P Q a w:=by
 refine wpIn_rangeFunc fun fn hfn => ?_
 rw [hro]
 let record : LoopState → Option Code → Loop:=fun st pe => { state:=st,pending:=pe,fn,tmps:=a.tmps,params:=prm,assign,body,defers:=w.heap.size }
 let D:=w.heap.size
 let L:=w.heap.size + 1
 let W0:=(w.alloc (.deferred (some []))).alloc (.loop (record .ready none))
 let Book : Loop → World → Prop:=fun rc W => W.heap[L]? = some (.loop rc) ∧ W.heap[D]? = some (.deferred (some []))
 have hbook : Book (record .ready none) W0:=by
  constructor
  ·exact Cy
  ·exact Aw
 have turn : ∀ {rc rc' : Loop} {W : World},Book rc W → Book rc' (W.putObj L (.loop rc')):=fun h =>
  ⟨World.putObj_heap_same (Array.getElem?_eq_some_iff.1 h.1).1,(World.putObj_heap_other (by simp [L,D])).trans h.2⟩
 have over : ∀ {rc : Loop} {W W' : World},Book rc W → KeepsFrom D W W' → Book rc W':=fun h k =>
  ⟨k.same _ _ (by simp [L,D]) h.1 rfl,k.same _ _ (Nat.le_refl _) h.2 rfl⟩
 have cells : ∀ {rc : Loop} {W : World} (v : Value),Book rc W → Book rc (W.setCell c v):=fun v h =>
  ⟨(KeepsOthers.setCell _ _ _).same _ _ h.1 rfl,(KeepsOthers.setCell _ _ _).same _ _ h.2 rfl⟩
 have hk0 : dE ps w W0:=fun p _ v hv => by
  exact IR
 refine ⟨L,[{ target:=.collected D,args:=#[] }],W0,{ target:=.fn (.func gf) lb,args:=#[.func (.yield L) #[] #[]] },W0,gf,#[.func (.yield L) #[] #[]] ++ lb,W0,
  run_enterLoop_outer _ _ _ _ _,?_,?_,?_,fun _ => h1,?_⟩
 ·simp only [resolve,hg]; simp [go_sem]
 ·intro f' hf'; simp [Target.leads] at hf'; subst hf'; exact hFg
 ·simp [invoke,go_sem,eg]
 refine (hseq L (fun r W => I r W ∧ Book (record .ready none) W) (fun W => ∃ j,Ix j W ∧ Book (record .done (some j)) W) W0 hk0
  (fun r A v h => ⟨hIc r A v h.1,cells v h.2⟩) ?_ ⟨hI.alloc _ (hI.alloc _ h0),hbook⟩).mono ?_
 ·
  rintro x r W ⟨hi,hb⟩;have hy:=run_yield (P:=P) (args:=encs x) hb.1 (hps x);refine ⟨fn,_,assign,body,hy,roundIn_of_wpIn hfn (hassign _ x W _ ⟨_,run_beginRound hb.1 rfl,?_⟩)⟩
  have hb2 : Book { record .ready none with state:=.busy } (W.putObj L (.loop { record .ready none with state:=.busy })):=turn hb
  refine wpIn_mono (hbody _ x r _ (hI.putObj _ hi jr hb.1 rfl)) ?_;rintro e a3 W3 hp
  cases e with
  | normal =>
   obtain ⟨hk3,hkp3,hi3⟩:=hp;have hb3:=over hb2 hk3;exact ⟨_,_,run_endRound none hb3.1,.inl ⟨rfl,⟨hI.putObj _ hi3 jr hb3.1 rfl,turn hb3⟩,((dE.turned _ _ _ _ hb.1 rfl).trans hkp3).trans (dE.turned _ _ _ _ hb3.1 rfl)⟩⟩
  | ret =>
   obtain ⟨hk3,hi3⟩:=hp;have hb3:=over hb2 hk3;exact ⟨_,_,run_endRound (some .ret) hb3.1,.inr ⟨rfl,.ret,hIx.putObj _ hi3 jr hb3.1 rfl,turn hb3⟩⟩
  | exit id => exact hp.elim
  | goto t => exact hp.elim
  | panic ch => exact hp.elim
  | outgrown => exact hp.elim
 ·
  rintro e W2 ⟨⟨v,rfl⟩,(⟨hi,hb⟩ | ⟨j,hi,hb⟩)⟩
  ·exact EC
  ·exact ⟨some j,_,run_endLoop hb.1 (by simp [record]),hstop D j _ (Nat.le_refl _) (hIx.putObj _ hi jr hb.1 rfl) (turn (rc':=_) hb).2⟩
def gF : List UInt8 → List (List UInt8)
 | [] => [[]]
 | b :: l => if b == 32 then [] :: gF l else match gF l with
  | [] => [[b]]
  | p :: r => (b :: p) :: r
theorem kC : ∀ (l : List UInt8),Lib.indexByte l 32 = -1 ∨ (0 ≤ Lib.indexByte l 32 ∧ Lib.indexByte l 32 < l.length)
 | [] => .inl rfl
 | b :: l => by
  have:=kC l
  exact Ct
theorem ou : ∀ (l : List UInt8),Lib.indexByte l 32 = -1 → gF l = [l]
 | [],_ => rfl
 | b :: l,h => by
  have hr:=kC l;unfold Lib.indexByte at h
  split at h
  ·simp at h
  ·rename_i hb
   split at h
   ·rename_i hi
    have:=ou l (by simpa using hi)
    unfold gF;rw [if_neg hb,this]
   ·rename_i hi
    simp at hi
    omega
theorem oD : ∀ (l : List UInt8) (k : Nat),Lib.indexByte l 32 = k → gF l = l.take k :: gF (l.drop (k + 1))
 | [],k,h => by simp [Lib.indexByte] at h
 | b :: l,k,h => by
  have hr:=kC l;unfold Lib.indexByte at h
  split at h
  ·rename_i hb
   obtain rfl : k = 0:=ae;rw [gF,if_pos hb]
   simp
  ·rename_i hb
   split at h
   ·omega
   ·rename_i hi
    simp at hi
    obtain ⟨m,rfl⟩ : ∃ m,k = m + 1:=⟨k - 1,ae⟩
    have:=oD l m ae
    rw [gF,if_neg hb,this]
    simp
def cw (s : ByteArray) : List ByteArray:=(gF s.data.toList).map fun l => ⟨l.toArray⟩
theorem KD (s : ByteArray) (k : Nat) : s.extract 0 k = ⟨(s.data.toList.take k).toArray⟩:=by
 apply iK; simp [ByteArray.data_extract,Array.toList_extract]
theorem KP (s : ByteArray) (k : Nat) : s.extract k s.size = ⟨(s.data.toList.drop k).toArray⟩:=by
 apply iK
 simp [ByteArray.data_extract,Array.toList_extract]
 rw [List.take_of_length_le]
 have:=eN s
 simp only [List.length_drop]
 omega
theorem rR (s : ByteArray) (h : Lib.indexByte s.data.toList 32 = -1) : cw s = [s]:=by
 simp [cw,ou _ h]
theorem tW (s : ByteArray) (k : Nat) (h : Lib.indexByte s.data.toList 32 = k) : cw s = s.extract 0 k :: cw (s.extract (k + 1) s.size):=by
 rw [KD,KP]
 simp [cw,oD _ k h]
theorem oz : ∀ (l : List UInt8) (p : List UInt8),p ∈ gF l → p.length ≤ l.length
 | [],p,h => by simp [gF] at h; simp [h]
 | b :: l,p,h => by
  have ih:=oz l;unfold gF at h
  split at h
  ·exact Ci
  ·exact I6
theorem si (s p : ByteArray) (h : p ∈ cw s) : p.size ≤ s.size:=by
 unfold cw at h;obtain ⟨l,hl,rfl⟩:=List.mem_map.1 h
 have:=oz _ _ hl
 rw [eN,eN];exact bX
open Go.Shelf Go.RowKit Go.Lib
theorem Jz (s : ByteArray) (w : World) :
  Calls Tryz.prog 176 #[.string s,.string ⟨#[32]⟩] w fun e w' => e = .returned (.int .i64 (Lib.indexByte s.data.toList 32)) ∧ w' = w:=Tryz.strings_Index_one s 32 w
open Go.RowKit Go.Shelf
def qp (W : World) (c : Addr) : ByteArray:=match W.cell? c with
 | some (.string s) => s
 | _ => ByteArray.empty
theorem H7 (n l b1 b2 b3 : Nat) (h12 : b1 ≠ b2) (h32 : b3 ≠ b2) (s : ByteArray) (J : List ByteArray → World → Prop) (Jx : World → Prop)
  (hJ : ∀ r A v,J r A → J r (A.setCell ⟨b2,0,none⟩ v))
  (hY : ∀ x r A,J (x :: r) A → YieldAt Fence.wide (n - 1) Tryz.prog l #[.string x] A fun e B => (e = .returned (.bool true) ∧ J r B ∧ dE [⟨b1,0,none⟩,⟨b2,0,none⟩,⟨b3,0,none⟩] A B) ∨ (e = .returned (.bool false) ∧ Jx B))
  (W : World) (c1 : W.cell? ⟨b1,0,none⟩ = some (.string ⟨#[32]⟩)) (c2 : W.cell? ⟨b2,0,none⟩ = some (.string s)) (f2 : W.frozen? ⟨b2,0,none⟩ = false) (c3 : W.cell? ⟨b3,0,none⟩ = some (.int .i64 0)) (h0 : J (cw s) W) (hsz : s.size ≤ 1099511627776) :
  CallsIn Fence.wide n Tryz.prog 174 #[.func (.yield l) #[] #[],.pointer (some ⟨b1,0,none⟩),.pointer (some ⟨b2,0,none⟩),.pointer (some ⟨b3,0,none⟩)] W fun e B => (∃ v,e = .returned v) ∧ (J [] B ∨ Jx B):=by
 refine callsIn_of_wp Tryz.func174 rfl trivial ?_ rfl
 simp only [Tryz.ntmps174,List.size_toArray,List.length_cons,List.length_nil,Nat.reduceAdd,Nat.reduceSub,Array.replicate_succ,Array.replicate_zero,List.push_toArray,List.append_toArray,List.nil_append,List.cons_append]
 gi_wp2
 gi_loopw [] (fun wr => ∃ s : ByteArray,wr.cell? ⟨b1,0,none⟩ = some (.string ⟨#[32]⟩) ∧ wr.cell? ⟨b2,0,none⟩ = some (.string s) ∧ wr.frozen? ⟨b2,0,none⟩ = false ∧ wr.cell? ⟨b3,0,none⟩ = some (.int .i64 0) ∧ J (cw s) wr ∧ s.size ≤ 1099511627776)
  (fun wr => (qp wr ⟨b2,0,none⟩).size)
 case atStart => exact ⟨s,c1,c2,f2,c3,h0,hsz⟩
 case round =>
  clear c1 c2 f2 c3 h0 hsz;obtain ⟨s,c1,c2,f2,c3,hj,hsz⟩:=hrel;have hI:=callsIn_wide (n:=n - 1).2 (Jz s wr)
  rcases kC s.data.toList with hneg | ⟨hge,hlt⟩
  ·rw [hneg] at hI;rw [rR s hneg] at hj;obtain ⟨fn,tmps,assign,body,hy,hR⟩:=hY s [] wr hj
   gi_wp2_with fail
   refine ⟨trivial,(fun h => nomatch h),?_⟩
   refine hI.mono ?_;rintro e w' ⟨rfl,rfl⟩
   gi_wp2_with fail
   refine ⟨(fun h => nomatch h),?_⟩
   refine hR.mono ?_
   rintro e W3 (⟨rfl,hJ3,hk3⟩ | ⟨rfl,hJx3⟩)
   ·gi_wp2_with fail
    go_end0;exact ⟨⟨_,rfl⟩,.inl hJ3⟩
   ·gi_wp2_with fail
    go_end0;exact ⟨⟨_,rfl⟩,.inr hJx3⟩
  ·obtain ⟨k,hk⟩ : ∃ k : Nat,Lib.indexByte s.data.toList 32 = k:=⟨(Lib.indexByte s.data.toList 32).toNat,ae⟩;rw [hk] at hI hlt;rw [← eN] at hlt;rw [tW s k hk] at hj;obtain ⟨fn,tmps,assign,body,hy,hR⟩:=hY _ _ wr hj;have k0 : (0 : Int) ≤ k:=ae;have k1 : (k : Int) < s.size:=ae;have k2 : (s.size : Int) ≤ 1099511627776:=ae;have k3 : wrap64 (k : Int) = k:=eu;have k4 : wrap64 ((k : Int) + 1) = k + 1:=eu
   gi_wp2_with fail
   refine ⟨trivial,(fun h => nomatch h),?_⟩
   refine hI.mono ?_;rintro e w' ⟨rfl,rfl⟩
   gi_wp2_with fail
   refine ⟨(fun h => nomatch h),?_⟩
   refine hR.mono ?_
   rintro e W3 (⟨rfl,hJ3,hk3⟩ | ⟨rfl,hJx3⟩)
   ·exact IH
   ·gi_wp2_with fail
    refine bodyPost_ret (results_none rfl _ _ _) rfl ?_;exact ⟨⟨_,rfl⟩,.inr hJx3⟩
theorem Ac (n b1 b2 b3 : Nat) (h12 : b1 ≠ b2) (h32 : b3 ≠ b2) (s : ByteArray) (W : World) (c1 : W.cell? ⟨b1,0,none⟩ = some (.string ⟨#[32]⟩)) (c2 : W.cell? ⟨b2,0,none⟩ = some (.string s)) (f2 : W.frozen? ⟨b2,0,none⟩ = false) (c3 : W.cell? ⟨b3,0,none⟩ = some (.int .i64 0)) (hsz : s.size ≤ 1099511627776) :
  LS Fence.wide n Tryz.prog 174 #[.pointer (some ⟨b1,0,none⟩),.pointer (some ⟨b2,0,none⟩),.pointer (some ⟨b3,0,none⟩)] (fun x : ByteArray => #[.string x]) ⟨b2,0,none⟩ [⟨b1,0,none⟩,⟨b2,0,none⟩,⟨b3,0,none⟩] (cw s) W:=fun l J Jx W1 hk hJ hY h0 => by
 obtain ⟨d1,_⟩:=hk _ ar _ c1;obtain ⟨d2,e2⟩:=hk _ ar _ c2;obtain ⟨d3,_⟩:=hk _ ar _ c3;exact H7 n l b1 b2 b3 h12 h32 s J Jx hJ hY W1 d1 d2 (e2.trans f2) d3 h0 hsz
theorem pH (s : ByteArray) (w : World) :
  Calls Tryz.prog 55 #[.string s,.string ⟨#[32]⟩] w fun e w' => e = .returned (.func (.func 174) #[] #[.pointer (some ⟨w.heap.size + 1,0,none⟩),.pointer (some ⟨w.heap.size,0,none⟩),.pointer (some ⟨w.heap.size + 2,0,none⟩)]) ∧
   w' = ((w.alloc (cK s)).alloc (cK ⟨#[32]⟩)).alloc (bz 0):=by
 go_enter Tryz.func55,Tryz.ntmps55
 go_wp2;go_ret;exact ⟨rfl,rfl⟩
end Go.Proofs.YtheefojaplnnoaaGreatDoor
