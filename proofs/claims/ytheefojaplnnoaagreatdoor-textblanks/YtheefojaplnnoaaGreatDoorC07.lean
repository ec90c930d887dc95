/-
  Texts Lint Lgl.
-/
import Derived.Test.YtheefojaplnnoaaGreatDoorC00
import Derived.Test.YtheefojaplnnoaaGreatDoorC04
set_option linter.unusedVariables false
set_option maxRecDepth 100000
set_option maxHeartbeats 16000000
namespace Go.Proofs.YtheefojaplnnoaaGreatDoor
open Go.RowKit
theorem N2 : ∃ i,Tryz.prog.info? 3 = some i ∧ i.zero = some (.int .i64 0) ∧ i.size = 1 ∧ i.bytes = 8:=by
 have h : (Tryz.prog.info? 3).map (fun i => (i.zero,i.size,i.bytes)) = some (some (.int .i64 0),1,8):=ai
 cases hi : Tryz.prog.info? 3 with
 | none => rw [hi] at h; cases h
 | some i => rw [hi] at h; simp at h; exact ⟨i,rfl,h.1,h.2.1,h.2.2⟩
def oH (y : Int) : List Value:=[.int .i64 y]
abbrev Oo (x : Int) : Value:=.int .i64 x
abbrev Pw (y : Int) : Value:=.int .i64 y
def jY (w : World) (a : Option Addr) (n : Nat) (xs : List Int) : Prop :=
 xs.length = n ∧ (n = 0 ∨ ∃ b off,a = some ⟨b,off,none⟩ ∧ ∀ (j : Nat) x,xs[j]? = some x → w.cell? ⟨b,off + j,none⟩ = some (.int .i64 x))
theorem jY.kept {S : Nat → Prop} {w w' : World} {a : Option Addr} {n : Nat} {xs : List Int} (h : jY w a n xs) (hk : aP S w w') (hS : ∀ b off c,a = some ⟨b,off,c⟩ → ¬ S b) : jY w' a n xs:=by
 refine ⟨h.1,h.2.imp id ?_⟩;rintro ⟨b,off,ha,hc⟩
 refine ⟨b,off,ha,fun j x hj => ?_⟩
 have:=hc j x hj
 exact hk.cell this (hS _ _ _ ha)
theorem wZ (w : World) (y : Int) : ∀ j u,(oH y)[j]? = some u → (w.alloc (bz y)).cell? ((⟨w.heap.size,0,none⟩ : Addr).add j) = some u:=by
 intro j u hj;have hlt:=aF hj;have hl : (oH y).length = 1:=rfl;rw [hl] at hlt;have hadd : (⟨w.heap.size,0,none⟩ : Addr).add j = ⟨w.heap.size,j,none⟩:=ic;rw [hadd];have hb:=(MapKept.heap_alloc w (bz y)).1
 simp only [World.cell?,hb]
 simpa [oH] using hj
theorem vH (y : Int) : ∀ u ∈ oH y,u.oneCell' = true:=by
 intro u hu
 simp [oH] at hu
 subst hu; rfl
def yu (R g : Nat) (w : World) (K : Nat) (cs : Array Value) (bs : List Int) (n : Nat) (xs : List Int) (enc : Int → List Int) (Ok : Int → Int → Prop) (j : Nat) (x : Int) : Prop :=
 ∀ (ys : List Int) (W : World) (g1 cap1 : Nat) (aa : Option Addr) (ac : Nat),ys.length = j → (∀ (i : Nat) y,ys[i]? = some y → ∃ x',xs[i]? = some x' ∧ Ok x' y) → Stp R g g1 w W → Wr W R g1 cap1 (bs ++ au n ++ (xs.take j).flatMap enc) →
  W.ownsRow 0 3 1 (.slice aa j ac) j (ys.flatMap oH) → (∀ b,aa = some b → w.heap.size ≤ b.block ∧ b.block ≠ g1) →
  Calls Tryz.prog K (#[Oo x,.slice aa j ac] ++ cs) W (fun e w' => ∃ y,e = .returned (Pw y) ∧ Ok x y ∧ ∃ g' cap',Wr w' R g' cap' (bs ++ au n ++ (xs.take j).flatMap enc ++ enc x) ∧ Stp R g1 g' W w')
def En (R g : Nat) (w : World) (K : Nat) (cs : Array Value) (bs : List Int) (n : Nat) (xs : List Int) (enc : Int → List Int) (Ok : Int → Int → Prop) (j : Nat) (x : Int) (er : Int) : Prop :=
 ∀ (ys : List Int) (W : World) (g1 cap1 : Nat) (aa : Option Addr) (ac : Nat),ys.length = j → (∀ (i : Nat) y,ys[i]? = some y → ∃ x',xs[i]? = some x' ∧ Ok x' y) → Stp R g g1 w W → Wr W R g1 cap1 (bs ++ au n ++ (xs.take j).flatMap enc) →
  W.ownsRow 0 3 1 (.slice aa j ac) j (ys.flatMap oH) → (∀ b,aa = some b → w.heap.size ≤ b.block ∧ b.block ≠ g1) →
  Calls Tryz.prog K (#[Oo x,.slice aa j ac] ++ cs) W (aJ R g1 er W)
theorem vw (R g cap : Nat) (bs : List Int) (ha : Option Addr) (n hc : Nat) (most : Int) (K : Nat) (cs : Array Value) (w : World) (xs : List Int) (enc : Int → List Int) (Ok : Int → Int → Prop) (M : Nat)
  (h : Wr w R g cap bs) (hn : n ≤ 100000) (hm : (n : Int) ≤ most) (hmem : jY w ha n xs) (hne : ∀ b off c,ha = some ⟨b,off,c⟩ → b ≠ R ∧ b ≠ g)
  (hK : ∀ args w,(callFunc K args).run Tryz.prog w = .ok (.enter K args) w) (hlen : ∀ (j : Nat) x,xs[j]? = some x → (enc x).length ≤ M) (hM : M ≤ 1000000) (hb : bs.length + 200000000000 ≤ 1099511627776)
  (heach : ∀ (j : Nat) x,xs[j]? = some x → yu R g w K cs bs n xs enc Ok j x) :
  Calls Tryz.prog 134 #[cW R,.slice ha n hc,.int .i64 most,.func (.func K) #[] cs] w fun e w' => ∃ (aa : Option Addr) (ac : Nat) (ys : List Int),e = .returned (.slice aa n ac) ∧ ys.length = n ∧ (∀ (i : Nat) y,ys[i]? = some y → ∃ x,xs[i]? = some x ∧ Ok x y) ∧
   w'.ownsRow 0 3 1 (.slice aa n ac) n (ys.flatMap oH) ∧ ∃ g' cap',(∀ b,aa = some b → w.heap.size ≤ b.block ∧ b.block ≠ g') ∧ Wr w' R g' cap' (bs ++ au n ++ xs.flatMap enc) ∧ Stp R g g' w w':=by
 have hmc:=bg;have hcc:=bN;have HC:=hid (bC R g cap bs n most w h hm ae ae);have hRl:=h.lt;have hgl:=h.g_lt;have hxl:=hmem.1;have HM:=hid hmem;have HNE:=hid hne;have HE:=hid heach;obtain ⟨i0,hi,hz0,hz1,hz2⟩:=N2;clear h hmem heach hne
 go_enter Tryz.func134,Tryz.ntmps134
 go_wp2_with fail;refine HC.out.mono ?_;rintro e w2 ⟨rfl,g1,cap1,hw2,hs2⟩;have W2:=hid hw2;have S2:=hid hs2;clear hw2 hs2 HC hmc hcc;go_wp2_with fail
 go_loopw [9,17] (fun o i wr => ∃ (j : Nat) (ys : List Int) (aa : Option Addr) (ac g1 cap1 : Nat),j ≤ n ∧ i = .int .i64 j ∧ o = .slice aa j ac ∧ ys.length = j ∧ (∀ (i : Nat) y,ys[i]? = some y → ∃ x,xs[i]? = some x ∧ Ok x y) ∧
   wr.ownsRow 0 3 1 (.slice aa j ac) j (ys.flatMap oH) ∧ (∀ b,aa = some b → w.heap.size ≤ b.block ∧ b.block ≠ g1) ∧ Wr wr R g1 cap1 (bs ++ au n ++ (xs.take j).flatMap enc) ∧ Stp R g g1 w wr) (fun _ i _ => n - (intOf i).toNat)
 case atStart => exact ⟨0,[],none,0,g1,cap1,ae,rfl,rfl,rfl,(fun i y h => eY),World.ownsRow_nil _ _ _ _,(fun b h => bG),fw,S2.out⟩
 case round =>
  obtain ⟨j,ys,aa,ac,g3,cap3,hj,rfl,rfl,hyl,hys,hrow,hab,hwr,hst⟩:=hrel;have HY:=hid hys;have HRW:=hid hrow;have HAB:=hid hab;have HWR:=hid hwr;have HST:=hid hst;clear hys hrow hab hwr hst W2 S2
  by_cases hlt : j < n
  ·obtain ⟨x,hx⟩ : ∃ x,xs[j]? = some x:=⟨_,aD ae⟩
   obtain ⟨b,off,rfl,hcell⟩ : ∃ b off,ha = some ⟨b,off,none⟩ ∧ ∀ (j : Nat) x,xs[j]? = some x → wr.cell? ⟨b,off + j,none⟩ = some (.int .i64 x):=by
    exact dU
   have hcj:=hcell j x hx;have hbl:=block_lt_of_cell hcj;clear hcell;have v0:=hcj;have BN:=hid (Below.refl wr.heap.size wr)
   have HC1:=hid (HE.out j x hx ys wr g3 cap3 aa ac hyl HY.out (HST.out.trans (Stp.of_below BN.out)) (HWR.out.later BN.out) (aA HRW.out (fun B hB => BN.out.block B (ax HRW.out hB))) HAB.out)
   go_wp2_with fail
   skip
   exact LQ
  ·exact nT
theorem yA (R g cap : Nat) (bs : List Int) (ha : Option Addr) (n hc : Nat) (most : Int) (K : Nat) (cs : Array Value) (w : World) (xs : List Int) (enc : Int → List Int) (Ok : Int → Int → Prop) (M : Nat)
  (h : Wr w R g cap bs) (hn : n ≤ 100000) (hm : (n : Int) ≤ most) (hmem : jY w ha n xs) (hne : ∀ b off c,ha = some ⟨b,off,c⟩ → b ≠ R ∧ b ≠ g)
  (hK : ∀ args w,(callFunc K args).run Tryz.prog w = .ok (.enter K args) w) (hlen : ∀ (j : Nat) x,xs[j]? = some x → (enc x).length ≤ M) (hM : M ≤ 1000000) (hb : bs.length + 200000000000 ≤ 1099511627776)
  (k : Nat) (xk : Int) (er : Int) (hk : xs[k]? = some xk) (heach : ∀ (j : Nat) x,xs[j]? = some x → j < k → yu R g w K cs bs n xs enc Ok j x) (hno : En R g w K cs bs n xs enc Ok k xk er) :
  Calls Tryz.prog 134 #[cW R,.slice ha n hc,.int .i64 most,.func (.func K) #[] cs] w (aJ R g er w):=by
 have hkn:=aF hk;have hmc:=bg;have hcc:=bN;have HC:=hid (bC R g cap bs n most w h hm ae ae);have hRl:=h.lt;have hgl:=h.g_lt;have hxl:=hmem.1;have HM:=hid hmem;have HNE:=hid hne;have HE:=hid heach;have HN:=hid hno;obtain ⟨i0,hi,hz0,hz1,hz2⟩:=N2;clear h hmem heach hne hno
 go_enter Tryz.func134,Tryz.ntmps134
 go_wp2_with fail;refine HC.out.mono ?_;rintro e w2 ⟨rfl,g1,cap1,hw2,hs2⟩;have W2:=hid hw2;have S2:=hid hs2;clear hw2 hs2 HC hmc hcc;go_wp2_with fail
 go_loopw [9,17] (fun o i wr => ∃ (j : Nat) (ys : List Int) (aa : Option Addr) (ac g1 cap1 : Nat),j ≤ k ∧ i = .int .i64 j ∧ o = .slice aa j ac ∧ ys.length = j ∧ (∀ (i : Nat) y,ys[i]? = some y → ∃ x,xs[i]? = some x ∧ Ok x y) ∧
   wr.ownsRow 0 3 1 (.slice aa j ac) j (ys.flatMap oH) ∧ (∀ b,aa = some b → w.heap.size ≤ b.block ∧ b.block ≠ g1) ∧ Wr wr R g1 cap1 (bs ++ au n ++ (xs.take j).flatMap enc) ∧ Stp R g g1 w wr) (fun _ i _ => n - (intOf i).toNat)
 case atStart => exact ⟨0,[],none,0,g1,cap1,ae,rfl,rfl,rfl,(fun i y h => eY),World.ownsRow_nil _ _ _ _,(fun b h => bG),fw,S2.out⟩
 case round =>
  obtain ⟨j,ys,aa,ac,g3,cap3,hj,rfl,rfl,hyl,hys,hrow,hab,hwr,hst⟩:=hrel;have HY:=hid hys;have HRW:=hid hrow;have HAB:=hid hab;have HWR:=hid hwr;have HST:=hid hst;clear hys hrow hab hwr hst W2 S2;have hlt : j < n:=ae
  ·obtain ⟨x,hx⟩ : ∃ x,xs[j]? = some x:=⟨_,aD ae⟩
   obtain ⟨b,off,rfl,hcell⟩ : ∃ b off,ha = some ⟨b,off,none⟩ ∧ ∀ (j : Nat) x,xs[j]? = some x → wr.cell? ⟨b,off + j,none⟩ = some (.int .i64 x):=by
    exact dU
   have hcj:=hcell j x hx;have hbl:=block_lt_of_cell hcj;clear hcell;have v0:=hcj;have BN:=hid (Below.refl wr.heap.size wr)
   by_cases hjk : j < k
   ·skip
    have HC1:=hid (HE.out j x hx hjk ys wr g3 cap3 aa ac hyl HY.out (HST.out.trans (Stp.of_below BN.out)) (HWR.out.later BN.out) (aA HRW.out (fun B hB => BN.out.block B (ax HRW.out hB))) HAB.out)
    go_wp2_with fail;exact LQ
   ·obtain rfl : j = k:=ae;obtain rfl : x = xk:=lJ
    have HC1:=hid (HN.out ys wr g3 cap3 aa ac hyl HY.out (HST.out.trans (Stp.of_below BN.out)) (HWR.out.later BN.out) (aA HRW.out (fun B hB => BN.out.block B (ax HRW.out hB))) HAB.out)
    exact oa
theorem rU (R g cap : Nat) (bs : List Int) (ha : Option Addr) (n hc : Nat) (most : Int) (f : Value) (w : World) (h : Wr w R g cap bs) (hm : most < (n : Int)) :
  Calls Tryz.prog 134 #[cW R,.slice ha n hc,.int .i64 most,f] w (aJ R g 20 w):=by
 have hmc:=bg;have hcc:=bN;have HC:=hid (ei R g cap bs n most w h hm);clear h
 go_enter Tryz.func134,Tryz.ntmps134
 exact jo
theorem ES : ∃ i,Tryz.prog.info? 102 = some i ∧ i.zero = some (.agg #[.int .u8 0,.bool false,.int .u64 0]) ∧ i.size = 3 ∧ i.bytes = 16:=by
 have h : (Tryz.prog.info? 102).map (fun i => (i.zero,i.size,i.bytes)) = some (some (.agg #[.int .u8 0,.bool false,.int .u64 0]),3,16):=ai
 cases hi : Tryz.prog.info? 102 with
 | none => rw [hi] at h; cases h
 | some i => rw [hi] at h; simp at h; exact ⟨i,rfl,h.1,h.2.1,h.2.2⟩
def oI (y : Gl) : List Value:=[.int .u8 y.1,.bool y.2.1,.int .u64 y.2.2]
abbrev N7 (x : Gl) : Value:=.agg #[.int .u8 x.1,.bool x.2.1,.int .u64 x.2.2]
abbrev O8 (y : Gl) : Value:=.agg #[.int .u8 y.1,.bool y.2.1,.int .u64 y.2.2]
def nS (w : World) (a : Option Addr) (n : Nat) (xs : List Gl) : Prop :=
 xs.length = n ∧ (n = 0 ∨ ∃ b off,a = some ⟨b,off,none⟩ ∧ ∀ (j : Nat) x,xs[j]? = some x → w.cell? ⟨b,off + j * 3,none⟩ = some (.int .u8 x.1) ∧ w.cell? ⟨b,off + j * 3 + 1,none⟩ = some (.bool x.2.1) ∧ w.cell? ⟨b,off + j * 3 + 2,none⟩ = some (.int .u64 x.2.2))
theorem nS.kept {S : Nat → Prop} {w w' : World} {a : Option Addr} {n : Nat} {xs : List Gl} (h : nS w a n xs) (hk : aP S w w') (hS : ∀ b off c,a = some ⟨b,off,c⟩ → ¬ S b) : nS w' a n xs:=by
 exact EZ
theorem vo (w : World) (y : Gl) : ∀ j u,(oI y)[j]? = some u → (w.alloc (aN y.1 y.2.1 y.2.2)).cell? ((⟨w.heap.size,0,none⟩ : Addr).add j) = some u:=by
 intro j u hj;have hlt:=aF hj;have hl : (oI y).length = 3:=rfl;rw [hl] at hlt;have hadd : (⟨w.heap.size,0,none⟩ : Addr).add j = ⟨w.heap.size,j,none⟩:=ic;rw [hadd];have hb:=(MapKept.heap_alloc w (aN y.1 y.2.1 y.2.2)).1
 simp only [World.cell?,hb]
 simpa [oI] using hj
theorem xq (y : Gl) : ∀ u ∈ oI y,u.oneCell' = true:=by
 intro u hu
 simp [oI] at hu
 rcases hu with rfl | rfl | rfl <;> rfl
def zy (R g : Nat) (w : World) (K : Nat) (cs : Array Value) (bs : List Int) (n : Nat) (xs : List Gl) (enc : Gl → List Int) (Ok : Gl → Gl → Prop) (j : Nat) (x : Gl) : Prop :=
 ∀ (ys : List Gl) (W : World) (g1 cap1 : Nat) (aa : Option Addr) (ac : Nat),ys.length = j → (∀ (i : Nat) y,ys[i]? = some y → ∃ x',xs[i]? = some x' ∧ Ok x' y) → Stp R g g1 w W → Wr W R g1 cap1 (bs ++ au n ++ (xs.take j).flatMap enc) →
  W.ownsRow 0 102 3 (.slice aa j ac) j (ys.flatMap oI) → (∀ b,aa = some b → w.heap.size ≤ b.block ∧ b.block ≠ g1) →
  Calls Tryz.prog K (#[N7 x,.slice aa j ac] ++ cs) W (fun e w' => ∃ y,e = .returned (O8 y) ∧ Ok x y ∧ ∃ g' cap',Wr w' R g' cap' (bs ++ au n ++ (xs.take j).flatMap enc ++ enc x) ∧ Stp R g1 g' W w')
def Fj (R g : Nat) (w : World) (K : Nat) (cs : Array Value) (bs : List Int) (n : Nat) (xs : List Gl) (enc : Gl → List Int) (Ok : Gl → Gl → Prop) (j : Nat) (x : Gl) (er : Int) : Prop :=
 ∀ (ys : List Gl) (W : World) (g1 cap1 : Nat) (aa : Option Addr) (ac : Nat),ys.length = j → (∀ (i : Nat) y,ys[i]? = some y → ∃ x',xs[i]? = some x' ∧ Ok x' y) → Stp R g g1 w W → Wr W R g1 cap1 (bs ++ au n ++ (xs.take j).flatMap enc) →
  W.ownsRow 0 102 3 (.slice aa j ac) j (ys.flatMap oI) → (∀ b,aa = some b → w.heap.size ≤ b.block ∧ b.block ≠ g1) →
  Calls Tryz.prog K (#[N7 x,.slice aa j ac] ++ cs) W (aJ R g1 er W)
theorem wI (R g cap : Nat) (bs : List Int) (ha : Option Addr) (n hc : Nat) (most : Int) (K : Nat) (cs : Array Value) (w : World) (xs : List Gl) (enc : Gl → List Int) (Ok : Gl → Gl → Prop) (M : Nat)
  (h : Wr w R g cap bs) (hn : n ≤ 100000) (hm : (n : Int) ≤ most) (hmem : nS w ha n xs) (hne : ∀ b off c,ha = some ⟨b,off,c⟩ → b ≠ R ∧ b ≠ g)
  (hK : ∀ args w,(callFunc K args).run Tryz.prog w = .ok (.enter K args) w) (hlen : ∀ (j : Nat) x,xs[j]? = some x → (enc x).length ≤ M) (hM : M ≤ 1000000) (hb : bs.length + 200000000000 ≤ 1099511627776)
  (heach : ∀ (j : Nat) x,xs[j]? = some x → zy R g w K cs bs n xs enc Ok j x) :
  Calls Tryz.prog 137 #[cW R,.slice ha n hc,.int .i64 most,.func (.func K) #[] cs] w fun e w' => ∃ (aa : Option Addr) (ac : Nat) (ys : List Gl),e = .returned (.slice aa n ac) ∧ ys.length = n ∧ (∀ (i : Nat) y,ys[i]? = some y → ∃ x,xs[i]? = some x ∧ Ok x y) ∧
   w'.ownsRow 0 102 3 (.slice aa n ac) n (ys.flatMap oI) ∧ ∃ g' cap',(∀ b,aa = some b → w.heap.size ≤ b.block ∧ b.block ≠ g') ∧ Wr w' R g' cap' (bs ++ au n ++ xs.flatMap enc) ∧ Stp R g g' w w':=by
 have hmc:=bg;have hcc:=bN;have HC:=hid (bC R g cap bs n most w h hm ae ae);have hRl:=h.lt;have hgl:=h.g_lt;have hxl:=hmem.1;have HM:=hid hmem;have HNE:=hid hne;have HE:=hid heach;obtain ⟨i0,hi,hz0,hz1,hz2⟩:=ES;clear h hmem heach hne
 go_enter Tryz.func137,Tryz.ntmps137
 go_wp2_with fail;refine HC.out.mono ?_;rintro e w2 ⟨rfl,g1,cap1,hw2,hs2⟩;have W2:=hid hw2;have S2:=hid hs2;clear hw2 hs2 HC hmc hcc;go_wp2_with fail
 go_loopw [9,17] (fun o i wr => ∃ (j : Nat) (ys : List Gl) (aa : Option Addr) (ac g1 cap1 : Nat),j ≤ n ∧ i = .int .i64 j ∧ o = .slice aa j ac ∧ ys.length = j ∧ (∀ (i : Nat) y,ys[i]? = some y → ∃ x,xs[i]? = some x ∧ Ok x y) ∧
   wr.ownsRow 0 102 3 (.slice aa j ac) j (ys.flatMap oI) ∧ (∀ b,aa = some b → w.heap.size ≤ b.block ∧ b.block ≠ g1) ∧ Wr wr R g1 cap1 (bs ++ au n ++ (xs.take j).flatMap enc) ∧ Stp R g g1 w wr) (fun _ i _ => n - (intOf i).toNat)
 case atStart => exact ⟨0,[],none,0,g1,cap1,ae,rfl,rfl,rfl,(fun i y h => eY),World.ownsRow_nil _ _ _ _,(fun b h => bG),fw,S2.out⟩
 case round =>
  obtain ⟨j,ys,aa,ac,g3,cap3,hj,rfl,rfl,hyl,hys,hrow,hab,hwr,hst⟩:=hrel;have HY:=hid hys;have HRW:=hid hrow;have HAB:=hid hab;have HWR:=hid hwr;have HST:=hid hst;clear hys hrow hab hwr hst W2 S2
  by_cases hlt : j < n
  ·obtain ⟨x,hx⟩ : ∃ x,xs[j]? = some x:=⟨_,aD ae⟩
   obtain ⟨b,off,rfl,hcell⟩ : ∃ b off,ha = some ⟨b,off,none⟩ ∧ ∀ (j : Nat) x,xs[j]? = some x → wr.cell? ⟨b,off + j * 3,none⟩ = some (.int .u8 x.1) ∧ wr.cell? ⟨b,off + j * 3 + 1,none⟩ = some (.bool x.2.1) ∧ wr.cell? ⟨b,off + j * 3 + 2,none⟩ = some (.int .u64 x.2.2):=by
    exact dU
   have hcj:=hcell j x hx;have hbl:=block_lt_of_cell hcj.1;clear hcell;obtain ⟨v0,v1,v2⟩:=hcj;have BN:=hid (ag wr (aN x.1 x.2.1 x.2.2))
   have HC1:=hid (HE.out j x hx ys (wr.alloc (aN x.1 x.2.1 x.2.2)) g3 cap3 aa ac hyl HY.out (HST.out.trans (Stp.of_below BN.out)) (HWR.out.later BN.out) (aA HRW.out (fun B hB => BN.out.block B (ax HRW.out hB))) HAB.out)
   exact LK
  ·exact nT
theorem xw (R g cap : Nat) (bs : List Int) (ha : Option Addr) (n hc : Nat) (most : Int) (K : Nat) (cs : Array Value) (w : World) (xs : List Gl) (enc : Gl → List Int) (Ok : Gl → Gl → Prop) (M : Nat)
  (h : Wr w R g cap bs) (hn : n ≤ 100000) (hm : (n : Int) ≤ most) (hmem : nS w ha n xs) (hne : ∀ b off c,ha = some ⟨b,off,c⟩ → b ≠ R ∧ b ≠ g)
  (hK : ∀ args w,(callFunc K args).run Tryz.prog w = .ok (.enter K args) w) (hlen : ∀ (j : Nat) x,xs[j]? = some x → (enc x).length ≤ M) (hM : M ≤ 1000000) (hb : bs.length + 200000000000 ≤ 1099511627776)
  (k : Nat) (xk : Gl) (er : Int) (hk : xs[k]? = some xk) (heach : ∀ (j : Nat) x,xs[j]? = some x → j < k → zy R g w K cs bs n xs enc Ok j x) (hno : Fj R g w K cs bs n xs enc Ok k xk er) :
  Calls Tryz.prog 137 #[cW R,.slice ha n hc,.int .i64 most,.func (.func K) #[] cs] w (aJ R g er w):=by
 have hkn:=aF hk;have hmc:=bg;have hcc:=bN;have HC:=hid (bC R g cap bs n most w h hm ae ae);have hRl:=h.lt;have hgl:=h.g_lt;have hxl:=hmem.1;have HM:=hid hmem;have HNE:=hid hne;have HE:=hid heach;have HN:=hid hno;obtain ⟨i0,hi,hz0,hz1,hz2⟩:=ES;clear h hmem heach hne hno
 go_enter Tryz.func137,Tryz.ntmps137
 go_wp2_with fail;refine HC.out.mono ?_;rintro e w2 ⟨rfl,g1,cap1,hw2,hs2⟩;have W2:=hid hw2;have S2:=hid hs2;clear hw2 hs2 HC hmc hcc;go_wp2_with fail
 go_loopw [9,17] (fun o i wr => ∃ (j : Nat) (ys : List Gl) (aa : Option Addr) (ac g1 cap1 : Nat),j ≤ k ∧ i = .int .i64 j ∧ o = .slice aa j ac ∧ ys.length = j ∧ (∀ (i : Nat) y,ys[i]? = some y → ∃ x,xs[i]? = some x ∧ Ok x y) ∧
   wr.ownsRow 0 102 3 (.slice aa j ac) j (ys.flatMap oI) ∧ (∀ b,aa = some b → w.heap.size ≤ b.block ∧ b.block ≠ g1) ∧ Wr wr R g1 cap1 (bs ++ au n ++ (xs.take j).flatMap enc) ∧ Stp R g g1 w wr) (fun _ i _ => n - (intOf i).toNat)
 case atStart => exact ⟨0,[],none,0,g1,cap1,ae,rfl,rfl,rfl,(fun i y h => eY),World.ownsRow_nil _ _ _ _,(fun b h => bG),fw,S2.out⟩
 case round =>
  obtain ⟨j,ys,aa,ac,g3,cap3,hj,rfl,rfl,hyl,hys,hrow,hab,hwr,hst⟩:=hrel;have HY:=hid hys;have HRW:=hid hrow;have HAB:=hid hab;have HWR:=hid hwr;have HST:=hid hst;clear hys hrow hab hwr hst W2 S2;have hlt : j < n:=ae
  ·obtain ⟨x,hx⟩ : ∃ x,xs[j]? = some x:=⟨_,aD ae⟩
   obtain ⟨b,off,rfl,hcell⟩ : ∃ b off,ha = some ⟨b,off,none⟩ ∧ ∀ (j : Nat) x,xs[j]? = some x → wr.cell? ⟨b,off + j * 3,none⟩ = some (.int .u8 x.1) ∧ wr.cell? ⟨b,off + j * 3 + 1,none⟩ = some (.bool x.2.1) ∧ wr.cell? ⟨b,off + j * 3 + 2,none⟩ = some (.int .u64 x.2.2):=by
    exact dU
   have hcj:=hcell j x hx;have hbl:=block_lt_of_cell hcj.1;clear hcell;obtain ⟨v0,v1,v2⟩:=hcj;have BN:=hid (ag wr (aN x.1 x.2.1 x.2.2))
   by_cases hjk : j < k
   ·skip
    have HC1:=hid (HE.out j x hx hjk ys (wr.alloc (aN x.1 x.2.1 x.2.2)) g3 cap3 aa ac hyl HY.out (HST.out.trans (Stp.of_below BN.out)) (HWR.out.later BN.out) (aA HRW.out (fun B hB => BN.out.block B (ax HRW.out hB))) HAB.out)
    exact LK
   ·obtain rfl : j = k:=ae;obtain rfl : x = xk:=lJ
    have HC1:=hid (HN.out ys (wr.alloc (aN x.1 x.2.1 x.2.2)) g3 cap3 aa ac hyl HY.out (HST.out.trans (Stp.of_below BN.out)) (HWR.out.later BN.out) (aA HRW.out (fun B hB => BN.out.block B (ax HRW.out hB))) HAB.out)
    exact oa
theorem rQ (R g cap : Nat) (bs : List Int) (ha : Option Addr) (n hc : Nat) (most : Int) (f : Value) (w : World) (h : Wr w R g cap bs) (hm : most < (n : Int)) :
  Calls Tryz.prog 137 #[cW R,.slice ha n hc,.int .i64 most,f] w (aJ R g 20 w):=by
 have hmc:=bg;have hcc:=bN;have HC:=hid (ei R g cap bs n most w h hm);clear h
 go_enter Tryz.func137,Tryz.ntmps137
 exact jo
end Go.Proofs.YtheefojaplnnoaaGreatDoor
