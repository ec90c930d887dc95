/-
  Texts Lin Lfu Wn.
-/
import Derived.Test.YtkdldbfbldkkcaaGreatDoorM00
import Derived.Test.YtkdldbfbldkkcaaGreatDoorM03
import Derived.Test.YtkdldbfbldkkcaaGreatDoorM06
import Derived.Test.YtkdldbfbldkkcaaGreatDoorM20
set_option linter.unusedVariables false
set_option maxRecDepth 100000
set_option maxHeartbeats 16000000
namespace Go.Proofs.YtkdldbfbldkkcaaGreatDoor
open Go.RowKit
theorem Kp : ∃ i,Tryz.prog.info? 82 = some i ∧ i.zero = some (.agg #[.int .u8 0,.int .i64 0,.slice none 0 0]) ∧ i.size = 3 ∧ i.bytes = 40:=by
 have h : (Tryz.prog.info? 82).map (fun i => (i.zero,i.size,i.bytes)) = some (some (.agg #[.int .u8 0,.int .i64 0,.slice none 0 0]),3,40):=ak
 cases hi : Tryz.prog.info? 82 with
 | none => rw [hi] at h; cases h
 | some i => rw [hi] at h; simp at h; exact ⟨i,rfl,h.1,h.2.1,h.2.2⟩
def og (y : (Int × Int × (Option Addr × Nat × Nat))) : List Value:=[.int .u8 y.1,.int .i64 y.2.1,.slice y.2.2.1 y.2.2.2.1 y.2.2.2.2]
abbrev Na (x : (Int × Int × (Option Addr × Nat × Nat) × List Int)) : Value:=.agg #[.int .u8 x.1,.int .i64 x.2.1,.slice x.2.2.1.1 x.2.2.1.2.1 x.2.2.1.2.2]
abbrev OH (y : (Int × Int × (Option Addr × Nat × Nat))) : Value:=.agg #[.int .u8 y.1,.int .i64 y.2.1,.slice y.2.2.1 y.2.2.2.1 y.2.2.2.2]
def AtIn (w : World) (a : Option Addr) (n : Nat) (xs : List (Int × Int × (Option Addr × Nat × Nat) × List Int)) : Prop :=
 xs.length = n ∧ (n = 0 ∨ ∃ b off,a = some ⟨b,off,none⟩ ∧ ∀ (j : Nat) x,xs[j]? = some x → w.cell? ⟨b,off + j * 3,none⟩ = some (.int .u8 x.1) ∧ w.cell? ⟨b,off + j * 3 + 1,none⟩ = some (.int .i64 x.2.1) ∧ w.cell? ⟨b,off + j * 3 + 2,none⟩ = some (.slice x.2.2.1.1 x.2.2.1.2.1 x.2.2.1.2.2))
theorem AtIn.kept {S : Nat → Prop} {w w' : World} {a : Option Addr} {n : Nat} {xs : List (Int × Int × (Option Addr × Nat × Nat) × List Int)} (h : AtIn w a n xs) (hk : Kept S w w') (hS : ∀ b off c,nz n a = some ⟨b,off,c⟩ → ¬ S b) : AtIn w' a n xs:=by
 refine ⟨h.1,h.2.imp id ?_⟩;rintro ⟨b,off,ha,hc⟩
 refine ⟨b,off,ha,fun j x hj => ?_⟩
 have ha:=KU (n:=n) (by have:=h.1; have:=(List.getElem?_eq_some_iff.1 hj).1; omega) ha
 have:=hc j x hj
 exact ⟨hk.cell this.1 (hS _ _ _ ha),hk.cell this.2.1 (hS _ _ _ ha),hk.cell this.2.2 (hS _ _ _ ha)⟩
theorem vS (w : World) (y : (Int × Int × (Option Addr × Nat × Nat))) : ∀ j u,(og y)[j]? = some u → (w.alloc (bG y.1 y.2.1 y.2.2.1 y.2.2.2.1 y.2.2.2.2)).cell? ((⟨w.heap.size,0,none⟩ : Addr).add j) = some u:=by
 intro j u hj;have hlt:=az hj;have hl : (og y).length = 3:=rfl;rw [hl] at hlt;have hadd : (⟨w.heap.size,0,none⟩ : Addr).add j = ⟨w.heap.size,j,none⟩:=dJ;rw [hadd];have hb:=(MapKept.heap_alloc w (bG y.1 y.2.1 y.2.2.1 y.2.2.2.1 y.2.2.2.2)).1
 simp only [World.cell?,hb]
 simpa [og] using hj
theorem wh (y : (Int × Int × (Option Addr × Nat × Nat))) : ∀ u ∈ og y,u.oneCell' = true:=by
 intro u hu
 simp [og] at hu
 rcases hu with rfl | rfl | rfl <;> rfl
def zr (R g : Nat) (w : World) (K : Nat) (cs : Array Value) (bs : List Int) (n : Nat) (xs : List (Int × Int × (Option Addr × Nat × Nat) × List Int)) (enc : (Int × Int × (Option Addr × Nat × Nat) × List Int) → List Int) (Ok : (Int × Int × (Option Addr × Nat × Nat) × List Int) → (Int × Int × (Option Addr × Nat × Nat)) → Prop) (j : Nat) (x : (Int × Int × (Option Addr × Nat × Nat) × List Int)) : Prop :=
 ∀ (ys : List (Int × Int × (Option Addr × Nat × Nat))) (W : World) (g1 cap1 : Nat) (aa : Option Addr) (ac : Nat),ys.length = j → (∀ (i : Nat) y,ys[i]? = some y → ∃ x',xs[i]? = some x' ∧ Ok x' y) → Stp R g g1 w W → Wr W R g1 cap1 (bs ++ aw n ++ (xs.take j).flatMap enc) →
  W.ownsRow 0 82 3 (.slice aa j ac) j (ys.flatMap og) → (∀ b,aa = some b → w.heap.size ≤ b.block ∧ b.block ≠ g1) →
  Calls Tryz.prog K (#[Na x,.slice aa j ac] ++ cs) W (fun e w' => ∃ y,e = .returned (OH y) ∧ Ok x y ∧ ∃ g' cap',Wr w' R g' cap' (bs ++ aw n ++ (xs.take j).flatMap enc ++ enc x) ∧ Stp R g1 g' W w')
def Hc (R g : Nat) (w : World) (K : Nat) (cs : Array Value) (bs : List Int) (n : Nat) (xs : List (Int × Int × (Option Addr × Nat × Nat) × List Int)) (enc : (Int × Int × (Option Addr × Nat × Nat) × List Int) → List Int) (Ok : (Int × Int × (Option Addr × Nat × Nat) × List Int) → (Int × Int × (Option Addr × Nat × Nat)) → Prop) (j : Nat) (x : (Int × Int × (Option Addr × Nat × Nat) × List Int)) (er : Int) : Prop :=
 ∀ (ys : List (Int × Int × (Option Addr × Nat × Nat))) (W : World) (g1 cap1 : Nat) (aa : Option Addr) (ac : Nat),ys.length = j → (∀ (i : Nat) y,ys[i]? = some y → ∃ x',xs[i]? = some x' ∧ Ok x' y) → Stp R g g1 w W → Wr W R g1 cap1 (bs ++ aw n ++ (xs.take j).flatMap enc) →
  W.ownsRow 0 82 3 (.slice aa j ac) j (ys.flatMap og) → (∀ b,aa = some b → w.heap.size ≤ b.block ∧ b.block ≠ g1) →
  Calls Tryz.prog K (#[Na x,.slice aa j ac] ++ cs) W (aU R g1 er W)
theorem wy (R g cap : Nat) (bs : List Int) (ha : Option Addr) (n hc : Nat) (most : Int) (K : Nat) (cs : Array Value) (w : World) (xs : List (Int × Int × (Option Addr × Nat × Nat) × List Int)) (enc : (Int × Int × (Option Addr × Nat × Nat) × List Int) → List Int) (Ok : (Int × Int × (Option Addr × Nat × Nat) × List Int) → (Int × Int × (Option Addr × Nat × Nat)) → Prop) (M : Nat)
  (h : Wr w R g cap bs) (hn : n ≤ 100000) (hm : (n : Int) ≤ most) (hmem : AtIn w ha n xs) (hne : ∀ b off c,nz n ha = some ⟨b,off,c⟩ → b ≠ R ∧ b ≠ g)
  (hK : ∀ args w,(callFunc K args).run Tryz.prog w = .ok (.enter K args) w) (hlen : ∀ (j : Nat) x,xs[j]? = some x → (enc x).length ≤ M) (hM : M ≤ 1000000) (hb : bs.length + 200000000000 ≤ 1099511627776)
  (heach : ∀ (j : Nat) x,xs[j]? = some x → zr R g w K cs bs n xs enc Ok j x) :
  Calls Tryz.prog 130 #[cW R,.slice ha n hc,.int .i64 most,.func (.func K) #[] cs] w fun e w' => ∃ (aa : Option Addr) (ac : Nat) (ys : List (Int × Int × (Option Addr × Nat × Nat))),e = .returned (.slice aa n ac) ∧ ys.length = n ∧ (∀ (i : Nat) y,ys[i]? = some y → ∃ x,xs[i]? = some x ∧ Ok x y) ∧
   w'.ownsRow 0 82 3 (.slice aa n ac) n (ys.flatMap og) ∧ ∃ g' cap',(∀ b,aa = some b → w.heap.size ≤ b.block ∧ b.block ≠ g') ∧ Wr w' R g' cap' (bs ++ aw n ++ xs.flatMap enc) ∧ Stp R g g' w w':=by
 have hmc:=br;have hcc:=bR;have HC:=hid (bH R g cap bs n most w h hm ae ae);have hRl:=h.lt;have hgl:=h.g_lt;have hxl:=hmem.1;have HM:=hid hmem;have HNE:=hid hne;have HE:=hid heach;obtain ⟨i0,hi,hz0,hz1,hz2⟩:=Kp;clear h hmem heach hne
 go_enter Tryz.func130,Tryz.ntmps130
 go_wp2_with fail;refine HC.out.mono ?_;rintro e w2 ⟨rfl,g1,cap1,hw2,hs2⟩;have W2:=hid hw2;have S2:=hid hs2;clear hw2 hs2 HC hmc hcc;go_wp2_with fail
 go_loopw [9,17] (fun o i wr => ∃ (j : Nat) (ys : List (Int × Int × (Option Addr × Nat × Nat))) (aa : Option Addr) (ac g1 cap1 : Nat),j ≤ n ∧ i = .int .i64 j ∧ o = .slice aa j ac ∧ ys.length = j ∧ (∀ (i : Nat) y,ys[i]? = some y → ∃ x,xs[i]? = some x ∧ Ok x y) ∧
   wr.ownsRow 0 82 3 (.slice aa j ac) j (ys.flatMap og) ∧ (∀ b,aa = some b → w.heap.size ≤ b.block ∧ b.block ≠ g1) ∧ Wr wr R g1 cap1 (bs ++ aw n ++ (xs.take j).flatMap enc) ∧ Stp R g g1 w wr) (fun _ i _ => n - (intOf i).toNat)
 case atStart => exact ⟨0,[],none,0,g1,cap1,ae,rfl,rfl,rfl,(fun i y h => ei),World.ownsRow_nil _ _ _ _,(fun b h => cj),fy,S2.out⟩
 case round =>
  obtain ⟨j,ys,aa,ac,g3,cap3,hj,rfl,rfl,hyl,hys,hrow,hab,hwr,hst⟩:=hrel;have HY:=hid hys;have HRW:=hid hrow;have HAB:=hid hab;have HWR:=hid hwr;have HST:=hid hst;clear hys hrow hab hwr hst W2 S2
  by_cases hlt : j < n
  ·obtain ⟨x,hx⟩ : ∃ x,xs[j]? = some x:=⟨_,ba ae⟩
   obtain ⟨b,off,rfl,hcell⟩ : ∃ b off,ha = some ⟨b,off,none⟩ ∧ ∀ (j : Nat) x,xs[j]? = some x → wr.cell? ⟨b,off + j * 3,none⟩ = some (.int .u8 x.1) ∧ wr.cell? ⟨b,off + j * 3 + 1,none⟩ = some (.int .i64 x.2.1) ∧ wr.cell? ⟨b,off + j * 3 + 2,none⟩ = some (.slice x.2.2.1.1 x.2.2.1.2.1 x.2.2.1.2.2):=by
    exact dL
   have hcj:=hcell j x hx;have hbl:=block_lt_of_cell hcj.1;clear hcell;obtain ⟨v0,v1,v2⟩:=hcj;have BN:=hid (aj wr (bG x.1 x.2.1 x.2.2.1.1 x.2.2.1.2.1 x.2.2.1.2.2))
   have HC1:=hid (HE.out j x hx ys (wr.alloc (bG x.1 x.2.1 x.2.2.1.1 x.2.2.1.2.1 x.2.2.1.2.2)) g3 cap3 aa ac hyl HY.out (HST.out.trans (Stp.of_below BN.out)) (HWR.out.later BN.out) (aJ HRW.out (fun B hB => BN.out.block B (aF HRW.out hB))) HAB.out)
   exact Lf
  ·exact nj
theorem yw (R g cap : Nat) (bs : List Int) (ha : Option Addr) (n hc : Nat) (most : Int) (K : Nat) (cs : Array Value) (w : World) (xs : List (Int × Int × (Option Addr × Nat × Nat) × List Int)) (enc : (Int × Int × (Option Addr × Nat × Nat) × List Int) → List Int) (Ok : (Int × Int × (Option Addr × Nat × Nat) × List Int) → (Int × Int × (Option Addr × Nat × Nat)) → Prop) (M : Nat)
  (h : Wr w R g cap bs) (hn : n ≤ 100000) (hm : (n : Int) ≤ most) (hmem : AtIn w ha n xs) (hne : ∀ b off c,nz n ha = some ⟨b,off,c⟩ → b ≠ R ∧ b ≠ g)
  (hK : ∀ args w,(callFunc K args).run Tryz.prog w = .ok (.enter K args) w) (hlen : ∀ (j : Nat) x,xs[j]? = some x → (enc x).length ≤ M) (hM : M ≤ 1000000) (hb : bs.length + 200000000000 ≤ 1099511627776)
  (k : Nat) (xk : (Int × Int × (Option Addr × Nat × Nat) × List Int)) (er : Int) (hk : xs[k]? = some xk) (heach : ∀ (j : Nat) x,xs[j]? = some x → j < k → zr R g w K cs bs n xs enc Ok j x) (hno : Hc R g w K cs bs n xs enc Ok k xk er) :
  Calls Tryz.prog 130 #[cW R,.slice ha n hc,.int .i64 most,.func (.func K) #[] cs] w (aU R g er w):=by
 have hkn:=az hk;have hmc:=br;have hcc:=bR;have HC:=hid (bH R g cap bs n most w h hm ae ae);have hRl:=h.lt;have hgl:=h.g_lt;have hxl:=hmem.1;have HM:=hid hmem;have HNE:=hid hne;have HE:=hid heach;have HN:=hid hno;obtain ⟨i0,hi,hz0,hz1,hz2⟩:=Kp;clear h hmem heach hne hno
 go_enter Tryz.func130,Tryz.ntmps130
 go_wp2_with fail;refine HC.out.mono ?_;rintro e w2 ⟨rfl,g1,cap1,hw2,hs2⟩;have W2:=hid hw2;have S2:=hid hs2;clear hw2 hs2 HC hmc hcc;go_wp2_with fail
 go_loopw [9,17] (fun o i wr => ∃ (j : Nat) (ys : List (Int × Int × (Option Addr × Nat × Nat))) (aa : Option Addr) (ac g1 cap1 : Nat),j ≤ k ∧ i = .int .i64 j ∧ o = .slice aa j ac ∧ ys.length = j ∧ (∀ (i : Nat) y,ys[i]? = some y → ∃ x,xs[i]? = some x ∧ Ok x y) ∧
   wr.ownsRow 0 82 3 (.slice aa j ac) j (ys.flatMap og) ∧ (∀ b,aa = some b → w.heap.size ≤ b.block ∧ b.block ≠ g1) ∧ Wr wr R g1 cap1 (bs ++ aw n ++ (xs.take j).flatMap enc) ∧ Stp R g g1 w wr) (fun _ i _ => n - (intOf i).toNat)
 case atStart => exact ⟨0,[],none,0,g1,cap1,ae,rfl,rfl,rfl,(fun i y h => ei),World.ownsRow_nil _ _ _ _,(fun b h => cj),fy,S2.out⟩
 case round =>
  obtain ⟨j,ys,aa,ac,g3,cap3,hj,rfl,rfl,hyl,hys,hrow,hab,hwr,hst⟩:=hrel;have HY:=hid hys;have HRW:=hid hrow;have HAB:=hid hab;have HWR:=hid hwr;have HST:=hid hst;clear hys hrow hab hwr hst W2 S2;have hlt : j < n:=ae
  ·obtain ⟨x,hx⟩ : ∃ x,xs[j]? = some x:=⟨_,ba ae⟩
   obtain ⟨b,off,rfl,hcell⟩ : ∃ b off,ha = some ⟨b,off,none⟩ ∧ ∀ (j : Nat) x,xs[j]? = some x → wr.cell? ⟨b,off + j * 3,none⟩ = some (.int .u8 x.1) ∧ wr.cell? ⟨b,off + j * 3 + 1,none⟩ = some (.int .i64 x.2.1) ∧ wr.cell? ⟨b,off + j * 3 + 2,none⟩ = some (.slice x.2.2.1.1 x.2.2.1.2.1 x.2.2.1.2.2):=by
    exact dL
   have hcj:=hcell j x hx;have hbl:=block_lt_of_cell hcj.1;clear hcell;obtain ⟨v0,v1,v2⟩:=hcj;have BN:=hid (aj wr (bG x.1 x.2.1 x.2.2.1.1 x.2.2.1.2.1 x.2.2.1.2.2))
   by_cases hjk : j < k
   ·skip
    have HC1:=hid (HE.out j x hx hjk ys (wr.alloc (bG x.1 x.2.1 x.2.2.1.1 x.2.2.1.2.1 x.2.2.1.2.2)) g3 cap3 aa ac hyl HY.out (HST.out.trans (Stp.of_below BN.out)) (HWR.out.later BN.out) (aJ HRW.out (fun B hB => BN.out.block B (aF HRW.out hB))) HAB.out)
    exact Lf
   ·obtain rfl : j = k:=ae;obtain rfl : x = xk:=lj
    have HC1:=hid (HN.out ys (wr.alloc (bG x.1 x.2.1 x.2.2.1.1 x.2.2.1.2.1 x.2.2.1.2.2)) g3 cap3 aa ac hyl HY.out (HST.out.trans (Stp.of_below BN.out)) (HWR.out.later BN.out) (aJ HRW.out (fun B hB => BN.out.block B (aF HRW.out hB))) HAB.out)
    exact mS
theorem um (R g cap : Nat) (bs : List Int) (ha : Option Addr) (n hc : Nat) (most : Int) (f : Value) (w : World) (h : Wr w R g cap bs) (hm : most < (n : Int)) :
  Calls Tryz.prog 130 #[cW R,.slice ha n hc,.int .i64 most,f] w (aU R g 20 w):=by
 have hmc:=br;have hcc:=bR;have HC:=hid (dS R g cap bs n most w h hm);clear h
 go_enter Tryz.func130,Tryz.ntmps130
 exact jk
theorem KV : ∃ i,Tryz.prog.info? 59 = some i ∧ i.zero = some (.agg #[.int .i64 0,.string ⟨#[]⟩,.slice none 0 0]) ∧ i.size = 3 ∧ i.bytes = 48:=by
 have h : (Tryz.prog.info? 59).map (fun i => (i.zero,i.size,i.bytes)) = some (some (.agg #[.int .i64 0,.string ⟨#[]⟩,.slice none 0 0]),3,48):=ak
 cases hi : Tryz.prog.info? 59 with
 | none => rw [hi] at h; cases h
 | some i => rw [hi] at h; simp at h; exact ⟨i,rfl,h.1,h.2.1,h.2.2⟩
def ol (y : (Int × ByteArray × (Option Addr × Nat × Nat))) : List Value:=[.int .i64 y.1,.string y.2.1,.slice y.2.2.1 y.2.2.2.1 y.2.2.2.2]
abbrev Np (x : (Int × ByteArray × (Option Addr × Nat × Nat) × List (Int × Int × (Option Addr × Nat × Nat) × List Int))) : Value:=.agg #[.int .i64 x.1,.string x.2.1,.slice x.2.2.1.1 x.2.2.1.2.1 x.2.2.1.2.2]
abbrev Oq (y : (Int × ByteArray × (Option Addr × Nat × Nat))) : Value:=.agg #[.int .i64 y.1,.string y.2.1,.slice y.2.2.1 y.2.2.2.1 y.2.2.2.2]
def mZ (w : World) (a : Option Addr) (n : Nat) (xs : List (Int × ByteArray × (Option Addr × Nat × Nat) × List (Int × Int × (Option Addr × Nat × Nat) × List Int))) : Prop :=
 xs.length = n ∧ (n = 0 ∨ ∃ b off,a = some ⟨b,off,none⟩ ∧ ∀ (j : Nat) x,xs[j]? = some x → w.cell? ⟨b,off + j * 3,none⟩ = some (.int .i64 x.1) ∧ w.cell? ⟨b,off + j * 3 + 1,none⟩ = some (.string x.2.1) ∧ w.cell? ⟨b,off + j * 3 + 2,none⟩ = some (.slice x.2.2.1.1 x.2.2.1.2.1 x.2.2.1.2.2))
theorem mZ.kept {S : Nat → Prop} {w w' : World} {a : Option Addr} {n : Nat} {xs : List (Int × ByteArray × (Option Addr × Nat × Nat) × List (Int × Int × (Option Addr × Nat × Nat) × List Int))} (h : mZ w a n xs) (hk : Kept S w w') (hS : ∀ b off c,a = some ⟨b,off,c⟩ → ¬ S b) : mZ w' a n xs:=by
 exact FI
theorem vW (w : World) (y : (Int × ByteArray × (Option Addr × Nat × Nat))) : ∀ j u,(ol y)[j]? = some u → (w.alloc (aW y.1 y.2.1 y.2.2.1 y.2.2.2.1 y.2.2.2.2)).cell? ((⟨w.heap.size,0,none⟩ : Addr).add j) = some u:=by
 intro j u hj;have hlt:=az hj;have hl : (ol y).length = 3:=rfl;rw [hl] at hlt;have hadd : (⟨w.heap.size,0,none⟩ : Addr).add j = ⟨w.heap.size,j,none⟩:=dJ;rw [hadd];have hb:=(MapKept.heap_alloc w (aW y.1 y.2.1 y.2.2.1 y.2.2.2.1 y.2.2.2.2)).1
 simp only [World.cell?,hb]
 simpa [ol] using hj
theorem vF (y : (Int × ByteArray × (Option Addr × Nat × Nat))) : ∀ u ∈ ol y,u.oneCell' = true:=by
 intro u hu
 simp [ol] at hu
 rcases hu with rfl | rfl | rfl <;> rfl
theorem mD (R g cap : Nat) (bs : List Int) (ha : Option Addr) (n hc : Nat) (most : Int) (f : Value) (w : World) (h : Wr w R g cap bs) (hm : most < (n : Int)) :
  Calls Tryz.prog 98 #[cW R,.slice ha n hc,.int .i64 most,f] w (aU R g 20 w):=by
 have hmc:=br;have hcc:=bR;have HC:=hid (dS R g cap bs n most w h hm);clear h
 go_enter Tryz.func98,Tryz.ntmps98
 exact jk
def kR (w : World) (c a : Int) (la : Option Addr) (ln lc : Nat) : World:=(w.alloc (bG c a la ln lc)).alloc (bG 0 0 none 0 0)
theorem jg (w : World) (c a : Int) (la : Option Addr) (ln lc : Nat) : Below w.heap.size w (kR w c a la ln lc) ∧ (kR w c a la ln lc).heap.size = w.heap.size + 1 + 1 ∧ (kR w c a la ln lc).heap[w.heap.size]? = some (bG c a la ln lc) ∧ (kR w c a la ln lc).heap[w.heap.size + 1]? = some (bG 0 0 none 0 0):=by
 unfold kR;refine ⟨((Below.refl _ w).alloc (Nat.le_refl _) _).alloc au _,au,?_,?_⟩
 ·exact Cm
 ·have:=(MapKept.heap_alloc (w.alloc (bG c a la ln lc)) (bG 0 0 none 0 0)).1
  exact cm
section
variable (R g cap : Nat) (bs : List Int) (c a : Int) (la : Option Addr) (ln lc : Nat) (l : List Int) (w : World)
theorem Dq (h : Wr w R g cap bs) (hk : bf w) (h0 : 0 ≤ c) (h1 : c ≤ 255) (hl : jG w la ln lc l) (hx : chk (tkV c) (lgV c) a l ≠ 0) :
  Calls Tryz.prog 193 #[.pointer (some ⟨R,0,none⟩),kB c a (.slice la ln lc)] w (aU R g (chk (tkV c) (lgV c) a l) w):=by
 obtain ⟨B0,z0,x0,x1⟩:=jg w c a la ln lc;have HW : (w.alloc (bG c a la ln lc)).alloc (bG 0 0 none 0 0) = kR w c a la ln lc:=rfl;generalize kR w c a la ln lc = W1 at *;have HE:=hid (zD c a la ln lc l W1 (hk.later B0 hk.pos) h0 h1 (hl.later B0 (Nat.le_refl _)) hx);have hRl:=h.lt;have H1:=hid (h.later B0);have BW:=hid B0;obtain ⟨a0,a1,a2,_,_,_⟩:=aP x0;generalize chk (tkV c) (lgV c) a l = x at *
 have hx' : (x == 0) = false:=by simp [hx]
 clear h hk hl B0;unfold kB at *
 go_enter Tryz.func193,Tryz.ntmps193
 go_wp2_with fail;refine HE.out.mono ?_;rintro e w2 ⟨rfl,hb2⟩;have H2:=H1.out.later hb2;have c0:=H2.c0;have B2:=hid (i9 BW.out hb2);clear hb2 HE;go_wp2_with fail;refine (cJ R _ _ _ _ c0).mono ?_;rintro e w3 ⟨rfl,rfl⟩;go_wp2_with fail
 refine (dX (by first | rfl | exact hx')).mono ?_
 rintro e w4 ⟨rfl,rfl⟩;exact ⟨rfl,⟨_,rfl⟩,aX B2.out⟩
theorem yE (h : Wr w R g cap bs) (hb : bs.length + 1000 ≤ 1099511627776) (hk : bf w) (h0 : 0 ≤ c) (h1 : c ≤ 255) (hl : jG w la ln lc l) (hx : chk (tkV c) (lgV c) a l = 0) :
  Calls Tryz.prog 193 #[.pointer (some ⟨R,0,none⟩),kB c a (.slice la ln lc)] w (nv R g bs (lq c a l) (kB c a (.slice la ln lc)) w):=by
 obtain ⟨B0,z0,x0,x1⟩:=jg w c a la ln lc;have HW : (w.alloc (bG c a la ln lc)).alloc (bG 0 0 none 0 0) = kR w c a la ln lc:=rfl;generalize kR w c a la ln lc = W1 at *;have HE:=hid (Jw c a la ln lc l W1 (hk.later B0 hk.pos) h0 h1 (hl.later B0 (Nat.le_refl _)) hx)
 have hle : (lq c a l).length ≤ 171:=by
  have:=tK hx
  have h16 : l.length ≤ 16:=by
   by_cases ht : tkV c = 3
   ·exact (this.2.2.2.1 ht).2.1
   ·rw [this.2.2.2.2 ht]; simp
  have:=wW (tkV c) a l h16
  simp [lq]; omega
 have hpos : 0 < (lq c a l).length:=by simp [lq]
 have hmem : ∀ z ∈ lq c a l,0 ≤ z ∧ z ≤ 255:=by
  intro z hz
  simp only [lq,List.mem_cons] at hz
  rcases hz with rfl | hz
  ·exact ⟨h0,h1⟩
  ·exact Fu hx z hz
 have hRl:=h.lt;have hgl:=h.g_lt;have H1:=hid (h.later B0);have BW:=hid B0;have HMEM:=hid hmem;obtain ⟨a0,a1,a2,_,_,_⟩:=aP x0;generalize lq c a l = E at *;clear h hk hl B0 hx hmem;unfold kB at *
 go_enter Tryz.func193,Tryz.ntmps193
 go_wp2_with fail;refine HE.out.mono ?_;rintro e w2 ⟨v,rfl,ho,hb2⟩;obtain ⟨va,vc,rfl,hsg,_⟩:=pk ho ae HMEM.out;have H2:=H1.out.later hb2;have c0:=H2.c0;have B2:=hid (i9 BW.out hb2);have SG:=hid hsg;have W2:=hid H2;have y0:=(hb2.block w.heap.size ae).trans x0;have y1:=(hb2.block (w.heap.size + 1) ae).trans x1;have z2:=hb2.size;clear hb2 HE ho hsg H2;go_wp2_with fail;refine (cJ R _ _ _ _ c0).mono ?_;rintro e w3 ⟨rfl,rfl⟩;go_wp2_with fail;refine (cu rfl).mono ?_;rintro e w4 ⟨rfl,rfl⟩;clear c0;go_wp2_with fail;refine (sD R g cap bs va E.length vc E _ W2.out SG.out hpos ae).mono ?_;rintro e w5 ⟨rfl,g',cap',hw5,hs5⟩;have q0:=(hs5.block (b:=w.heap.size) ae ae ae).trans y0;have q1:=(hs5.block (b:=w.heap.size + 1) ae ae ae).trans y1;have n1 : w.heap.size + 1 ≠ g':=hs5.ne ae ae;obtain ⟨b0,b1,b2,_,_,_⟩:=aP q0;obtain ⟨k0,k1,k2,k3,k4,k5⟩:=aP q1;have hl0:=block_lt_of_cell b0;have hl1:=block_lt_of_cell k0;have W5:=hid hw5;have S5:=hid ((Stp.of_below B2.out).trans hs5);clear hw5 hs5 y0 y1 x0 x1 a0 a1 a2 q0 q1;exact Gf
variable (A : Nat) (aa : Option Addr) (an ac : Nat)
theorem C8 (h : Wr w R g cap bs) (hk : bf w) (h0 : 0 ≤ c) (h1 : c ≤ 255) (hl : jG w la ln lc l) (hA : w.cell? ⟨A,0,none⟩ = some (cW R)) (hx : chk (tkV c) (lgV c) a l ≠ 0) :
  Calls Tryz.prog 131 #[kB c a (.slice la ln lc),.slice aa an ac,.pointer (some ⟨A,0,none⟩)] w (aU R g (chk (tkV c) (lgV c) a l) w):=by
 have hm:=iW;have hc:=vo;obtain ⟨B0,z0,x0,x1⟩:=jg w c a la ln lc;have HW : (w.alloc (bG c a la ln lc)).alloc (bG 0 0 none 0 0) = kR w c a la ln lc:=rfl;have hA1 : (kR w c a la ln lc).cell? ⟨A,0,none⟩ = some (cW R):=(B0.cell gm).trans hA;have HE:=hid (Dq R g cap bs c a la ln lc l _ (h.later B0) (hk.later B0 hk.pos) h0 h1 (hl.later B0 (Nat.le_refl _)) hx);generalize kR w c a la ln lc = W1 at *;have BW:=hid B0;obtain ⟨a0,a1,a2,_,_,_⟩:=aP x0;generalize chk (tkV c) (lgV c) a l = x at *;clear h hk hl B0 hA;unfold kB at *
 go_enter Tryz.func131,Tryz.ntmps131
 go_wp2_with fail;refine HE.out.mono ?_;rintro e w2 ⟨⟨q,rfl⟩,hk2⟩;exact ⟨rfl,⟨q,rfl⟩,(aX BW.out).trans hk2⟩
theorem xV (h : Wr w R g cap bs) (hb : bs.length + 1000 ≤ 1099511627776) (hk : bf w) (h0 : 0 ≤ c) (h1 : c ≤ 255) (hl : jG w la ln lc l) (hA : w.cell? ⟨A,0,none⟩ = some (cW R)) (hx : chk (tkV c) (lgV c) a l = 0) :
  Calls Tryz.prog 131 #[kB c a (.slice la ln lc),.slice aa an ac,.pointer (some ⟨A,0,none⟩)] w (nv R g bs (lq c a l) (kB c a (.slice la ln lc)) w):=by
 have hm:=iW;have hc:=vo;obtain ⟨B0,z0,x0,x1⟩:=jg w c a la ln lc;have HW : (w.alloc (bG c a la ln lc)).alloc (bG 0 0 none 0 0) = kR w c a la ln lc:=rfl;have hA1 : (kR w c a la ln lc).cell? ⟨A,0,none⟩ = some (cW R):=(B0.cell gm).trans hA;have HE:=hid (yE R g cap bs c a la ln lc l _ (h.later B0) hb (hk.later B0 hk.pos) h0 h1 (hl.later B0 (Nat.le_refl _)) hx);have hRl:=h.lt;have hgl:=h.g_lt;generalize kR w c a la ln lc = W1 at *;have BW:=hid B0;obtain ⟨a0,a1,a2,_,_,_⟩:=aP x0;generalize lq c a l = E at *;clear h hk hl B0 hA hx;unfold kB at *
 go_enter Tryz.func131,Tryz.ntmps131
 go_wp2_with fail;refine HE.out.mono ?_;rintro e w5 ⟨rfl,g',cap',hw5,hs5⟩;have q1:=(hs5.block (b:=w.heap.size + 1) ae ae ae).trans x1;have n1 : w.heap.size + 1 ≠ g':=hs5.ne ae ae;obtain ⟨k0,k1,k2,k3,k4,k5⟩:=aP q1;have hl1:=block_lt_of_cell k0;have W5:=hid hw5;have S5:=hid ((Stp.of_below BW.out).trans hs5);clear hw5 hs5 x0 x1 a0 a1 a2 q1 HE;exact Gf
end
end Go.Proofs.YtkdldbfbldkkcaaGreatDoor
