/-
  Texts Lfl Wk Sd.
-/
import Derived.Test.YtheefojaplnnoaaGreatDoorC00
import Derived.Test.YtheefojaplnnoaaGreatDoorC09
import Derived.Test.YtheefojaplnnoaaGreatDoorC12
import Derived.Test.YtheefojaplnnoaaGreatDoorC13
import Derived.Test.YtheefojaplnnoaaGreatDoorC15
set_option linter.unusedVariables false
set_option maxRecDepth 100000
set_option maxHeartbeats 16000000
namespace Go.Proofs.YtheefojaplnnoaaGreatDoor
open Go.RowKit
structure LAt (w : World) (L : Nat) (v : Int) : Prop where
 c : w.cell? ⟨L,0,none⟩ = some (.int .i64 v)
 f : w.frozen? ⟨L,0,none⟩ = false
theorem LAt.lt {w : World} {L : Nat} {v : Int} (h : LAt w L v) : L < w.heap.size:=block_lt_of_cell h.c
theorem LAt.kept {S : Nat → Prop} {w w' : World} {L : Nat} {v : Int} (h : LAt w L v) (hk : aP S w w') (hs : ¬ S L) : LAt w' L v:=⟨hk.cell h.c hs,(bt (hk.block L h.lt hs) 0).trans h.f⟩
theorem LAt.later {w w' : World} {L : Nat} {v : Int} (h : LAt w L v) (hb : Below w.heap.size w w') : LAt w' L v:=h.kept (S:=fun _ => False) (bA hb) id
abbrev Cu (R L g : Nat) (x : Int) (w : World) : Ending → World → Prop:=fun e w' => (∃ p,e = thr x p) ∧ aP (fun k => k = R ∨ k = g ∨ k = L) w w'
def yb (R g L : Nat) (lv : Nat → Int) (w : World) (K : Nat) (cs : Array Value) (bs : List Int) (n : Nat) (xs : List (Int × ByteArray × (Option Addr × Nat × Nat) × List (Int × Int × (Option Addr × Nat × Nat) × List Int))) (enc : (Int × ByteArray × (Option Addr × Nat × Nat) × List (Int × Int × (Option Addr × Nat × Nat) × List Int)) → List Int) (Ok : (Int × ByteArray × (Option Addr × Nat × Nat) × List (Int × Int × (Option Addr × Nat × Nat) × List Int)) → (Int × ByteArray × (Option Addr × Nat × Nat)) → Prop) (j : Nat) (x : (Int × ByteArray × (Option Addr × Nat × Nat) × List (Int × Int × (Option Addr × Nat × Nat) × List Int))) : Prop :=
 ∀ (ys : List (Int × ByteArray × (Option Addr × Nat × Nat))) (W : World) (g1 cap1 : Nat) (aa : Option Addr) (ac : Nat),ys.length = j → (∀ (i : Nat) y,ys[i]? = some y → ∃ x',xs[i]? = some x' ∧ Ok x' y) → eA R L g g1 w W → LAt W L (lv j) → L ≠ g1 → Wr W R g1 cap1 (bs ++ au n ++ (xs.take j).flatMap enc) →
  W.ownsRow 0 78 3 (.slice aa j ac) j (ys.flatMap oL) → (∀ b,aa = some b → w.heap.size ≤ b.block ∧ b.block ≠ g1) →
  Calls Tryz.prog K (#[OU x,.slice aa j ac] ++ cs) W (fun e w' => ∃ y,e = .returned (PH y) ∧ Ok x y ∧ ∃ g' cap',Wr w' R g' cap' (bs ++ au n ++ (xs.take j).flatMap enc ++ enc x) ∧ eA R L g1 g' W w' ∧ LAt w' L (lv (j + 1)))
def GJ (R g L : Nat) (lv : Nat → Int) (w : World) (K : Nat) (cs : Array Value) (bs : List Int) (n : Nat) (xs : List (Int × ByteArray × (Option Addr × Nat × Nat) × List (Int × Int × (Option Addr × Nat × Nat) × List Int))) (enc : (Int × ByteArray × (Option Addr × Nat × Nat) × List (Int × Int × (Option Addr × Nat × Nat) × List Int)) → List Int) (Ok : (Int × ByteArray × (Option Addr × Nat × Nat) × List (Int × Int × (Option Addr × Nat × Nat) × List Int)) → (Int × ByteArray × (Option Addr × Nat × Nat)) → Prop) (j : Nat) (x : (Int × ByteArray × (Option Addr × Nat × Nat) × List (Int × Int × (Option Addr × Nat × Nat) × List Int))) (er : Int) : Prop :=
 ∀ (ys : List (Int × ByteArray × (Option Addr × Nat × Nat))) (W : World) (g1 cap1 : Nat) (aa : Option Addr) (ac : Nat),ys.length = j → (∀ (i : Nat) y,ys[i]? = some y → ∃ x',xs[i]? = some x' ∧ Ok x' y) → eA R L g g1 w W → LAt W L (lv j) → L ≠ g1 → Wr W R g1 cap1 (bs ++ au n ++ (xs.take j).flatMap enc) →
  W.ownsRow 0 78 3 (.slice aa j ac) j (ys.flatMap oL) → (∀ b,aa = some b → w.heap.size ≤ b.block ∧ b.block ≠ g1) →
  Calls Tryz.prog K (#[OU x,.slice aa j ac] ++ cs) W (aJ R g1 er W)
theorem uK (R g cap : Nat) (bs : List Int) (ha : Option Addr) (n hc : Nat) (most : Int) (K : Nat) (cs : Array Value) (w : World) (xs : List (Int × ByteArray × (Option Addr × Nat × Nat) × List (Int × Int × (Option Addr × Nat × Nat) × List Int))) (enc : (Int × ByteArray × (Option Addr × Nat × Nat) × List (Int × Int × (Option Addr × Nat × Nat) × List Int)) → List Int) (Ok : (Int × ByteArray × (Option Addr × Nat × Nat) × List (Int × Int × (Option Addr × Nat × Nat) × List Int)) → (Int × ByteArray × (Option Addr × Nat × Nat)) → Prop) (M : Nat)
  (L : Nat) (lv : Nat → Int) (hL : LAt w L (lv 0)) (hLR : L ≠ R) (hLg : L ≠ g) (h : Wr w R g cap bs) (hn : n ≤ 100000) (hm : (n : Int) ≤ most) (hmem : kK w ha n xs) (hne : ∀ b off c,ha = some ⟨b,off,c⟩ → b ≠ R ∧ b ≠ g ∧ b ≠ L)
  (hK : ∀ args w,(callFunc K args).run Tryz.prog w = .ok (.enter K args) w) (hlen : ∀ (j : Nat) x,xs[j]? = some x → (enc x).length ≤ M) (hM : M ≤ 1000000) (hb : bs.length + 200000000000 ≤ 1099511627776)
  (heach : ∀ (j : Nat) x,xs[j]? = some x → yb R g L lv w K cs bs n xs enc Ok j x) :
  Calls Tryz.prog 141 #[cW R,.slice ha n hc,.int .i64 most,.func (.func K) #[] cs] w fun e w' => ∃ (aa : Option Addr) (ac : Nat) (ys : List (Int × ByteArray × (Option Addr × Nat × Nat))),e = .returned (.slice aa n ac) ∧ ys.length = n ∧ (∀ (i : Nat) y,ys[i]? = some y → ∃ x,xs[i]? = some x ∧ Ok x y) ∧
   w'.ownsRow 0 78 3 (.slice aa n ac) n (ys.flatMap oL) ∧ ∃ g' cap',(∀ b,aa = some b → w.heap.size ≤ b.block ∧ b.block ≠ g') ∧ Wr w' R g' cap' (bs ++ au n ++ xs.flatMap enc) ∧ eA R L g g' w w' ∧ LAt w' L (lv n) ∧ L ≠ g':=by
 have hmc:=bg;have hcc:=bN;have HC:=hid (bC R g cap bs n most w h hm ae ae);have hRl:=h.lt;have hLl:=hL.lt;have hgl:=h.g_lt;have hxl:=hmem.1;have HM:=hid hmem;have HNE:=hid hne;have HE:=hid heach;obtain ⟨i0,hi,hz0,hz1,hz2⟩:=LM;clear h hmem heach hne
 go_enter Tryz.func141,Tryz.ntmps141
 go_wp2_with fail;refine HC.out.mono ?_;rintro e w2 ⟨rfl,g1,cap1,hw2,hs2⟩;have L2:=hid (hL.kept hs2.k aL);have NL2 : L ≠ g1:=hs2.ne hLl hLg;have W2:=hid hw2;have S2:=hid hs2;clear hw2 hs2 HC hmc hcc;go_wp2_with fail
 go_loopw [9,17] (fun o i wr => ∃ (j : Nat) (ys : List (Int × ByteArray × (Option Addr × Nat × Nat))) (aa : Option Addr) (ac g1 cap1 : Nat),j ≤ n ∧ i = .int .i64 j ∧ o = .slice aa j ac ∧ ys.length = j ∧ (∀ (i : Nat) y,ys[i]? = some y → ∃ x,xs[i]? = some x ∧ Ok x y) ∧
   wr.ownsRow 0 78 3 (.slice aa j ac) j (ys.flatMap oL) ∧ (∀ b,aa = some b → w.heap.size ≤ b.block ∧ b.block ≠ g1) ∧ Wr wr R g1 cap1 (bs ++ au n ++ (xs.take j).flatMap enc) ∧ eA R L g g1 w wr ∧ LAt wr L (lv j) ∧ L ≠ g1) (fun _ i _ => n - (intOf i).toNat)
 case atStart => exact ⟨0,[],none,0,g1,cap1,ae,rfl,rfl,rfl,(fun i y h => eY),World.ownsRow_nil _ _ _ _,(fun b h => bG),fw,S2.out.toL,L2.out,NL2⟩
 case round =>
  obtain ⟨j,ys,aa,ac,g3,cap3,hj,rfl,rfl,hyl,hys,hrow,hab,hwr,hst,hla,hlg⟩:=hrel;have HLA:=hid hla;clear hla L2 NL2;have HY:=hid hys;have HRW:=hid hrow;have HAB:=hid hab;have HWR:=hid hwr;have HST:=hid hst;clear hys hrow hab hwr hst W2 S2
  by_cases hlt : j < n
  ·obtain ⟨x,hx⟩ : ∃ x,xs[j]? = some x:=⟨_,aD ae⟩
   obtain ⟨b,off,rfl,hcell⟩ : ∃ b off,ha = some ⟨b,off,none⟩ ∧ ∀ (j : Nat) x,xs[j]? = some x → wr.cell? ⟨b,off + j * 3,none⟩ = some (.int .i64 x.1) ∧ wr.cell? ⟨b,off + j * 3 + 1,none⟩ = some (.string x.2.1) ∧ wr.cell? ⟨b,off + j * 3 + 2,none⟩ = some (.slice x.2.2.1.1 x.2.2.1.2.1 x.2.2.1.2.2):=by
    exact dU
   have hcj:=hcell j x hx;have hbl:=block_lt_of_cell hcj.1;clear hcell;obtain ⟨v0,v1,v2⟩:=hcj;have BN:=hid (ag wr (bf x.1 x.2.1 x.2.2.1.1 x.2.2.1.2.1 x.2.2.1.2.2))
   have HC1:=hid (HE.out j x hx ys (wr.alloc (bf x.1 x.2.1 x.2.2.1.1 x.2.2.1.2.1 x.2.2.1.2.2)) g3 cap3 aa ac hyl HY.out (HST.out.trans (eA.of_below BN.out)) (HLA.out.later BN.out) hlg (HWR.out.later BN.out) (aA HRW.out (fun B hB => BN.out.block B (ax HRW.out hB))) HAB.out)
   exact Mg
  ·obtain rfl : j = n:=ae;have hxs : xs.take j = xs:=List.take_of_length_le ae;go_wp2_with fail;go_ret;refine ⟨aa,ac,ys,rfl,hyl,HY.out,HRW.out,g3,cap3,HAB.out,?_,HST.out,HLA.out,hlg⟩;rw [← hxs];exact HWR.out
theorem xh (R g cap : Nat) (bs : List Int) (ha : Option Addr) (n hc : Nat) (most : Int) (K : Nat) (cs : Array Value) (w : World) (xs : List (Int × ByteArray × (Option Addr × Nat × Nat) × List (Int × Int × (Option Addr × Nat × Nat) × List Int))) (enc : (Int × ByteArray × (Option Addr × Nat × Nat) × List (Int × Int × (Option Addr × Nat × Nat) × List Int)) → List Int) (Ok : (Int × ByteArray × (Option Addr × Nat × Nat) × List (Int × Int × (Option Addr × Nat × Nat) × List Int)) → (Int × ByteArray × (Option Addr × Nat × Nat)) → Prop) (M : Nat)
  (L : Nat) (lv : Nat → Int) (hL : LAt w L (lv 0)) (hLR : L ≠ R) (hLg : L ≠ g) (h : Wr w R g cap bs) (hn : n ≤ 100000) (hm : (n : Int) ≤ most) (hmem : kK w ha n xs) (hne : ∀ b off c,ha = some ⟨b,off,c⟩ → b ≠ R ∧ b ≠ g ∧ b ≠ L)
  (hK : ∀ args w,(callFunc K args).run Tryz.prog w = .ok (.enter K args) w) (hlen : ∀ (j : Nat) x,xs[j]? = some x → (enc x).length ≤ M) (hM : M ≤ 1000000) (hb : bs.length + 200000000000 ≤ 1099511627776)
  (k : Nat) (xk : (Int × ByteArray × (Option Addr × Nat × Nat) × List (Int × Int × (Option Addr × Nat × Nat) × List Int))) (er : Int) (hk : xs[k]? = some xk) (heach : ∀ (j : Nat) x,xs[j]? = some x → j < k → yb R g L lv w K cs bs n xs enc Ok j x) (hno : GJ R g L lv w K cs bs n xs enc Ok k xk er) :
  Calls Tryz.prog 141 #[cW R,.slice ha n hc,.int .i64 most,.func (.func K) #[] cs] w (Cu R L g er w):=by
 have hkn:=aF hk;have hmc:=bg;have hcc:=bN;have HC:=hid (bC R g cap bs n most w h hm ae ae);have hRl:=h.lt;have hLl:=hL.lt;have hgl:=h.g_lt;have hxl:=hmem.1;have HM:=hid hmem;have HNE:=hid hne;have HE:=hid heach;have HN:=hid hno;obtain ⟨i0,hi,hz0,hz1,hz2⟩:=LM;clear h hmem heach hne hno
 go_enter Tryz.func141,Tryz.ntmps141
 go_wp2_with fail;refine HC.out.mono ?_;rintro e w2 ⟨rfl,g1,cap1,hw2,hs2⟩;have L2:=hid (hL.kept hs2.k aL);have NL2 : L ≠ g1:=hs2.ne hLl hLg;have W2:=hid hw2;have S2:=hid hs2;clear hw2 hs2 HC hmc hcc;go_wp2_with fail
 go_loopw [9,17] (fun o i wr => ∃ (j : Nat) (ys : List (Int × ByteArray × (Option Addr × Nat × Nat))) (aa : Option Addr) (ac g1 cap1 : Nat),j ≤ k ∧ i = .int .i64 j ∧ o = .slice aa j ac ∧ ys.length = j ∧ (∀ (i : Nat) y,ys[i]? = some y → ∃ x,xs[i]? = some x ∧ Ok x y) ∧
   wr.ownsRow 0 78 3 (.slice aa j ac) j (ys.flatMap oL) ∧ (∀ b,aa = some b → w.heap.size ≤ b.block ∧ b.block ≠ g1) ∧ Wr wr R g1 cap1 (bs ++ au n ++ (xs.take j).flatMap enc) ∧ eA R L g g1 w wr ∧ LAt wr L (lv j) ∧ L ≠ g1) (fun _ i _ => n - (intOf i).toNat)
 case atStart => exact ⟨0,[],none,0,g1,cap1,ae,rfl,rfl,rfl,(fun i y h => eY),World.ownsRow_nil _ _ _ _,(fun b h => bG),fw,S2.out.toL,L2.out,NL2⟩
 case round =>
  obtain ⟨j,ys,aa,ac,g3,cap3,hj,rfl,rfl,hyl,hys,hrow,hab,hwr,hst,hla,hlg⟩:=hrel;have HLA:=hid hla;clear hla L2 NL2;have HY:=hid hys;have HRW:=hid hrow;have HAB:=hid hab;have HWR:=hid hwr;have HST:=hid hst;clear hys hrow hab hwr hst W2 S2;have hlt : j < n:=ae
  ·obtain ⟨x,hx⟩ : ∃ x,xs[j]? = some x:=⟨_,aD ae⟩
   obtain ⟨b,off,rfl,hcell⟩ : ∃ b off,ha = some ⟨b,off,none⟩ ∧ ∀ (j : Nat) x,xs[j]? = some x → wr.cell? ⟨b,off + j * 3,none⟩ = some (.int .i64 x.1) ∧ wr.cell? ⟨b,off + j * 3 + 1,none⟩ = some (.string x.2.1) ∧ wr.cell? ⟨b,off + j * 3 + 2,none⟩ = some (.slice x.2.2.1.1 x.2.2.1.2.1 x.2.2.1.2.2):=by
    exact dU
   have hcj:=hcell j x hx;have hbl:=block_lt_of_cell hcj.1;clear hcell;obtain ⟨v0,v1,v2⟩:=hcj;have BN:=hid (ag wr (bf x.1 x.2.1 x.2.2.1.1 x.2.2.1.2.1 x.2.2.1.2.2))
   by_cases hjk : j < k
   ·skip
    have HC1:=hid (HE.out j x hx hjk ys (wr.alloc (bf x.1 x.2.1 x.2.2.1.1 x.2.2.1.2.1 x.2.2.1.2.2)) g3 cap3 aa ac hyl HY.out (HST.out.trans (eA.of_below BN.out)) (HLA.out.later BN.out) hlg (HWR.out.later BN.out) (aA HRW.out (fun B hB => BN.out.block B (ax HRW.out hB))) HAB.out)
    exact Mg
   ·obtain rfl : j = k:=ae;obtain rfl : x = xk:=lJ
    have HC1:=hid (HN.out ys (wr.alloc (bf x.1 x.2.1 x.2.2.1.1 x.2.2.1.2.1 x.2.2.1.2.2)) g3 cap3 aa ac hyl HY.out (HST.out.trans (eA.of_below BN.out)) (HLA.out.later BN.out) hlg (HWR.out.later BN.out) (aA HRW.out (fun B hB => BN.out.block B (ax HRW.out hB))) HAB.out)
    go_wp2_with fail;refine HC1.out.mono ?_;rintro e w5 ⟨⟨p,rfl⟩,hk5⟩;exact ⟨rfl,⟨p,rfl⟩,(HST.out.trans (eA.of_below BN.out)).throw hk5⟩
abbrev FuM:=Int × ByteArray × SLv × List InM
def nJ (sg : List Sg) (ty : Int) : ByteArray:=(sg.getD ty.toNat (⟨#[]⟩,⟨#[]⟩)).1
def fR (sg : List Sg) (left : Int) (ty : Int) (lo : ByteArray) (xs : List InM) : Int :=
 if ty < 0 ∨ (sg.length : Int) ≤ ty then 30 else if 64 < lo.size + (nJ sg ty).size then 13 else if bH lo 64 = false then 15 else if min 2048 left < (xs.length : Int) then 20 else cM (fun _ x => eo x) [] xs
def nY (ty : Int) (lo : ByteArray) (xs : List InM) : List Int:=au ty ++ lC lo ++ (au xs.length ++ xs.flatMap gp)
theorem C2 {sg : List Sg} {t : Nat} {p r : ByteArray} (h : sg[t]? = some (p,r)) : nJ sg (t : Int) = p:=by
 simp [nJ,List.getD,h]
section
variable (R g cap : Nat) (bs : List Int) (ty left : Int) (lo : ByteArray) (ca : Option Addr) (cn cc : Nat) (sa : Option Addr) (sn sc : Nat) (sg : List Sg) (xs : List InM) (w : World)
theorem A9 (hmem : gV w ca cn xs) (hne : ∀ b off c,nz cn ca = some ⟨b,off,c⟩ → b ≠ R ∧ b ≠ g) (hbl : ∀ b off c,nz cn ca = some ⟨b,off,c⟩ → b < w.heap.size) (hok : ∀ (j : Nat) x,xs[j]? = some x → qE w R g x) (hil : ∀ (j : Nat) x,xs[j]? = some x → ∀ b off c,nz x.2.2.1.2.1 x.2.2.1.1 = some ⟨b,off,c⟩ → b < w.heap.size) {W : World} {g2 : Nat} (hst : Stp R g g2 w W) :
  gV W ca cn xs ∧ (∀ b off c,nz cn ca = some ⟨b,off,c⟩ → b ≠ R ∧ b ≠ g2) ∧ (∀ (j : Nat) x,xs[j]? = some x → qE W R g2 x):=by
 refine ⟨hmem.kept hst.k (fun b off c h => yF),fun b off c h => ⟨(hne b off c h).1,hst.ne (hbl b off c h) (hne b off c h).2⟩,fun j x hj => ?_⟩
 have h:=hok j x hj
 exact ⟨h.r0,h.r1,h.seg' hst,fun b off c hb => ⟨(h.ne b off c hb).1,hst.ne (hil j x hj b off c hb) (h.ne b off c hb).2⟩⟩
theorem Dh (h : Wr w R g cap bs) (hb : bs.length + 400000000000 ≤ 1099511627776) (hs : sn ≤ 100000) (hR0 : R ≠ 0) (hg0 : g ≠ 0) (hk : aT w) (hsg : cf w sa sn sg) (hne : ∀ b off c,sa = some ⟨b,off,c⟩ → b ≠ R ∧ b ≠ g) (hp8 : ∀ (t : Nat) p r,sg[t]? = some (p,r) → p.size ≤ 8) (hcn : cn ≤ 100000 ∨ 2048 < cn) (hmem : gV w ca cn xs) (hcne : ∀ b off c,nz cn ca = some ⟨b,off,c⟩ → b ≠ R ∧ b ≠ g) (hcbl : ∀ b off c,nz cn ca = some ⟨b,off,c⟩ → b < w.heap.size) (hok : ∀ (j : Nat) x,xs[j]? = some x → qE w R g x) (hil : ∀ (j : Nat) x,xs[j]? = some x → ∀ b off c,nz x.2.2.1.2.1 x.2.2.1.1 = some ⟨b,off,c⟩ → b < w.heap.size) (hx : fR sg left ty lo xs = 0) :
  Calls Tryz.prog 143 #[cW R,.agg #[.int .i64 ty,.string lo,.slice ca cn cc],.slice sa sn sc,.int .i64 left] w (fun e w' => ∃ (aa : Option Addr) (ac : Nat),e = .returned (.agg #[.int .i64 ty,.string lo,.slice aa cn ac]) ∧ ∃ g' cap',Wr w' R g' cap' (bs ++ nY ty lo xs) ∧ Stp R g g' w w'):=by
 have hxl:=hmem.1;have hsl:=hsg.1;unfold fR at hx
 split at hx
 ·cases hx
 ·rename_i c1
  split at hx
  ·cases hx
  ·rename_i c2
   split at hx
   ·cases hx
   ·rename_i c3
    split at hx
    ·cases hx
    ·rename_i c4
     obtain ⟨t,rfl⟩ : ∃ t : Nat,ty = t:=⟨ty.toNat,ae⟩
     have hlt : bH lo 64 = true:=by simpa using c3
     refine (yI R g cap bs t left lo ca cn cc sa sn sc sg w h ae hs ae hsg hne (fun p r hp => hp8 t p r hp) (fun p r hp => rX) hlt (au cn ++ xs.flatMap gp)
      (fun W g2 cap2 hW hst hA hAg => ?_)).mono ?_
     ·obtain ⟨m1,m2,m3⟩:=A9 R g ca cn xs w hmem hcne hcbl hok hil hst;have hg2 : g2 ≠ 0:=Ne.symm (hst.ne rY (Ne.symm hg0));have hu:=aC (t : Int);have hlo:=eO lo 64 ae;exact wR R g2 cap2 _ ca cn cc (min 2048 left) w.heap.size xs W hW pz ae ae hR0 hg2 (hk.kept hst.k aL) hA rY hAg m1 m2 m3 hx
     ·rintro e w' ⟨aa,ac,he,g',cap',hw',hs'⟩;refine ⟨aa,ac,he,g',cap',?_,hs'⟩;rw [← hxl] at hw'
      simpa [nY,List.append_assoc] using hw'
theorem DT (h : Wr w R g cap bs) (hb : bs.length + 400000000000 ≤ 1099511627776) (hs : sn ≤ 100000) (hR0 : R ≠ 0) (hg0 : g ≠ 0) (hk : aT w) (hsg : cf w sa sn sg) (hne : ∀ b off c,sa = some ⟨b,off,c⟩ → b ≠ R ∧ b ≠ g) (hp8 : ∀ (t : Nat) p r,sg[t]? = some (p,r) → p.size ≤ 8) (hcn : cn ≤ 100000 ∨ 2048 < cn) (hmem : gV w ca cn xs) (hcne : ∀ b off c,nz cn ca = some ⟨b,off,c⟩ → b ≠ R ∧ b ≠ g) (hcbl : ∀ b off c,nz cn ca = some ⟨b,off,c⟩ → b < w.heap.size) (hok : ∀ (j : Nat) x,xs[j]? = some x → qE w R g x) (hil : ∀ (j : Nat) x,xs[j]? = some x → ∀ b off c,nz x.2.2.1.2.1 x.2.2.1.1 = some ⟨b,off,c⟩ → b < w.heap.size) (hty : -9223372036854775808 ≤ ty) (hty1 : ty < 9223372036854775808) (hlo : lo.size ≤ 1073741824 ∨ 64 < lo.size) (hx : fR sg left ty lo xs ≠ 0) :
  Calls Tryz.prog 143 #[cW R,.agg #[.int .i64 ty,.string lo,.slice ca cn cc],.slice sa sn sc,.int .i64 left] w (aJ R g (fR sg left ty lo xs) w):=by
 have hxl:=hmem.1;have hsl:=hsg.1;have hRl:=h.lt;unfold fR at hx ⊢
 by_cases c1 : ty < 0 ∨ (sg.length : Int) ≤ ty
 ·rw [if_pos c1];exact CT R g cap bs left lo ca cn cc sa sn sc w ty h hty hty1 ae hs
 rw [if_neg c1] at hx ⊢;obtain ⟨t,rfl⟩ : ∃ t : Nat,ty = t:=⟨ty.toNat,ae⟩
 by_cases c2 : 64 < lo.size + (nJ sg t).size
 ·rw [if_pos c2]
  exact wT R g cap bs t left lo ca cn cc sa sn sc sg w h ae hs ae hsg hne (fun p r hp => hp8 t p r hp) 13 (fun W g1 cap1 p r hp hps hW => fK R g1 cap1 _ lo _ _ W hW rX)
 rw [if_neg c2] at hx ⊢
 by_cases c3 : bH lo 64 = false
 ·rw [if_pos c3]
  exact wT R g cap bs t left lo ca cn cc sa sn sc sg w h ae hs ae hsg hne (fun p r hp => hp8 t p r hp) 15 (fun W g1 cap1 p r hp hps hW => eT R g1 cap1 _ lo _ 183 #[] 15 W hW rX (fun _ _ => rfl) (iH lo _ W ae (by rw [eZ lo 256 64 ae ae]; exact c3)))
 rw [if_neg c3] at hx ⊢
 have c3' : bH lo 64 = true:=by simpa using c3
 have hlo8 : ∀ p r,sg[t]? = some (p,r) → lo.size + p.size ≤ 64:=fun p r hp => rX
 have hu:=aC (t : Int);have hle:=eO lo 64 ae
 by_cases c4 : min 2048 left < (xs.length : Int)
 ·rw [if_pos c4]
  exact vL R g cap bs t left lo ca cn cc sa sn sc sg w h ae hs ae hsg hne (fun p r hp => hp8 t p r hp) hlo8 c3' 20 (fun W g2 cap2 hW hst hA hAg => tq R g2 cap2 _ ca cn cc _ _ W hW ae)
 rw [if_neg c4] at hx ⊢
 refine vL R g cap bs t left lo ca cn cc sa sn sc sg w h ae hs ae hsg hne (fun p r hp => hp8 t p r hp) hlo8 c3' _ (fun W g2 cap2 hW hst hA hAg => ?_)
 obtain ⟨m1,m2,m3⟩:=A9 R g ca cn xs w hmem hcne hcbl hok hil hst;have hg2 : g2 ≠ 0:=Ne.symm (hst.ne ae (Ne.symm hg0));exact xz R g2 cap2 _ ca cn cc (min 2048 left) w.heap.size xs W hW pz ae ae hR0 hg2 (hk.kept hst.k aL) hA ae hAg m1 m2 m3 hx
end
def cR (xs : List FuM) : Nat:=(xs.map fun x => x.2.2.2.length).sum
theorem tu {xs : List FuM} {j : Nat} {x : FuM} (hx : xs[j]? = some x) : cR (xs.take (j + 1)) = cR (xs.take j) + x.2.2.2.length:=by
 have hj:=aF hx;rw [List.take_succ_eq_append_getElem hj];rw [aD hj] at hx
 simp at hx
 simp [cR,hx]
def fQ (sg : List Sg) (ah : List FuM) (x : FuM) : Int:=fR sg (16384 - cR ah) x.1 x.2.1 x.2.2.2
def cT (x : FuM) : List Int:=nY x.1 x.2.1 x.2.2.2
structure IW (w : World) (R g L : Nat) (x : FuM) : Prop where
 r0 : -9223372036854775808 ≤ x.1
 r1 : x.1 < 9223372036854775808
 mem : gV w x.2.2.1.1 x.2.2.1.2.1 x.2.2.2
 ne : ∀ b off c,nz x.2.2.1.2.1 x.2.2.1.1 = some ⟨b,off,c⟩ → b ≠ R ∧ b ≠ g ∧ b ≠ L
 lt : ∀ b off c,nz x.2.2.1.2.1 x.2.2.1.1 = some ⟨b,off,c⟩ → b < w.heap.size
 ins : ∀ (j : Nat) y,x.2.2.2[j]? = some y → qE w R g y
 inl : ∀ (j : Nat) y,x.2.2.2[j]? = some y → ∀ b off c,nz y.2.2.1.2.1 y.2.2.1.1 = some ⟨b,off,c⟩ → b < w.heap.size ∧ b ≠ L
theorem rG {sg : List Sg} {left : Int} {ty : Int} {lo : ByteArray} {xs : List InM} (h : fR sg left ty lo xs = 0) : lo.size ≤ 64 ∧ (xs.length : Int) ≤ left ∧ xs.length ≤ 2048 ∧ cM (fun _ x => eo x) [] xs = 0:=by
 unfold fR at h
 split at h
 ·cases h
 ·split at h
  ·cases h
  ·split at h
   ·cases h
   ·split at h
    ·cases h
    ·refine ⟨ae,ae,ae,h⟩
theorem kr {sg : List Sg} {left : Int} {x : FuM} (h : fR sg left x.1 x.2.1 x.2.2.2 = 0) : (cT x).length ≤ 400000:=by
 obtain ⟨h1,h2,h3,h4⟩:=rG h;have a:=aC x.1;have b:=eO x.2.1 64 h1;have c:=aC x.2.2.2.length
 have d:=dw gp 171 x.2.2.2 (fun j y hj => nk (bo (fun _ x => eo x) x.2.2.2 [] h4 j y hj))
 simp only [cT,nY,List.length_append]
 have : x.2.2.2.length * 171 ≤ 2048 * 171:=Nat.mul_le_mul_right _ h3;omega
section
variable (R g cap : Nat) (bs : List Int) (n : Nat) (A O L : Nat) (ta : Option Addr) (tn tc : Nat) (sg : List Sg) (w : World) (xs : List FuM)
theorem Gw (hok : ∀ (j : Nat) x,xs[j]? = some x → IW w R g L x) {W : World} {g1 : Nat} (hst : eA R L g g1 w W) (j : Nat) (x : FuM) (hx : xs[j]? = some x) :
  gV W x.2.2.1.1 x.2.2.1.2.1 x.2.2.2 ∧ (∀ b off c,nz x.2.2.1.2.1 x.2.2.1.1 = some ⟨b,off,c⟩ → b ≠ R ∧ b ≠ g1) ∧ (∀ b off c,nz x.2.2.1.2.1 x.2.2.1.1 = some ⟨b,off,c⟩ → b < W.heap.size) ∧ (∀ (i : Nat) y,x.2.2.2[i]? = some y → qE W R g1 y) ∧ (∀ (i : Nat) y,x.2.2.2[i]? = some y → ∀ b off c,nz y.2.2.1.2.1 y.2.2.1.1 = some ⟨b,off,c⟩ → b < W.heap.size):=by
 have h:=hok j x hx;have hz:=hst.size
 refine ⟨h.mem.kept hst.k (fun b off c hb => by have:=h.ne b off c hb; simp; omega),fun b off c hb => ⟨(h.ne b off c hb).1,hst.ne (h.lt b off c hb) (h.ne b off c hb).2.1⟩,fun b off c hb => Nat.lt_of_lt_of_le (h.lt b off c hb) hz,fun i y hi => ?_,fun i y hi b off c hb => Nat.lt_of_lt_of_le (h.inl i y hi b off c hb).1 hz⟩
 have q:=h.ins i y hi
 exact ⟨q.r0,q.r1,q.seg.kept' hst.k (fun b off c hb => by have:=q.ne b off c hb; have:=(h.inl i y hi b off c hb).2; simp; omega),fun b off c hb => ⟨(q.ne b off c hb).1,hst.ne (h.inl i y hi b off c hb).1 (q.ne b off c hb).2⟩⟩
theorem uW (h : Wr w R g cap bs) (hb : bs.length + 500000000000 ≤ 1099511627776) (hn : n ≤ 1000) (hR0 : R ≠ 0) (hg0 : g ≠ 0) (hk : aT w) (hL0 : L ≠ 0) (hA : w.cell? ⟨A,0,none⟩ = some (cW R)) (hAR : A ≠ R) (hAg : A ≠ g) (hAL : A ≠ L) (hO : w.cell? ⟨O,0,none⟩ = some (.slice ta tn tc)) (hOR : O ≠ R) (hOg : O ≠ g) (hOL : O ≠ L) (htn : tn ≤ 100000) (hsg : cf w ta tn sg) (hsn : ∀ b off c,ta = some ⟨b,off,c⟩ → b ≠ R ∧ b ≠ g ∧ b ≠ L) (hsl : ∀ b off c,ta = some ⟨b,off,c⟩ → b < w.heap.size) (hp8 : ∀ (t : Nat) p r,sg[t]? = some (p,r) → p.size ≤ 8) (hLR : L ≠ R) (hLg : L ≠ g) (hok : ∀ (j : Nat) x,xs[j]? = some x → IW w R g L x) (hl : xs.length = n) (e : FuM → List Int) (k : Nat) (he : ∀ (i : Nat) y,xs[i]? = some y → i < k → e y = cT y) (hall : ∀ (i : Nat) y,xs[i]? = some y → i < k → fQ sg (xs.take i) y = 0) (j : Nat) (x : FuM) (hx : xs[j]? = some x) (hjk : j < k) :
  yb R g L (fun j => 16384 - (cR (xs.take j) : Int)) w 142 #[.pointer (some ⟨A,0,none⟩),.pointer (some ⟨O,0,none⟩),.pointer (some ⟨L,0,none⟩)] bs n xs e (fun _ _ => True) j x:=by
 intro ys W g1 cap1 aa ac hyl hys hst hla hlg hwr hrow hab;have hlt:=aF hx;have hchk:=hall j x hx hjk;have henc:=he j x hx hjk
 have hlen : ((xs.take j).flatMap e).length ≤ j * 400000:=by
  have:=dw e 400000 (xs.take j) (fun i y hi => by
   have hij : i < j:=lW;rw [List.getElem?_take_of_lt hij] at hi;rw [he i y hi ae];exact kr (hall i y hi ae))
  exact mQ
 have hu:=aC (n : Int)
 have hbb : (bs ++ au n ++ (xs.take j).flatMap e).length ≤ bs.length + 10 + 1000 * 400000:=by
  rw [List.length_append,List.length_append];have : j * 400000 ≤ 1000 * 400000:=Nat.mul_le_mul_right _ ae;omega
 obtain ⟨m1,m2,m3,m4,m5⟩:=Gw R g L w xs hok hst j x hx;have hkk:=rG hchk;have hxl:=(hok j x hx).mem.1;have hg1 : g1 ≠ 0:=Ne.symm (hst.ne rY (Ne.symm hg0));have hkW : aT W:=hk.kept hst.k aL
 have hsgW:=hsg.kept hst.k (fun b off c hb' => by have:=hsn b off c hb'; simp; omega)
 have hcell:=hla.c
 refine (yM R g1 cap1 _ x.1 x.2.1 x.2.2.1.1 x.2.2.1.2.1 x.2.2.1.2.2 aa j ac A O L ta tn tc (16384 - (cR (xs.take j) : Int)) W hwr (hst.cell hA hAR hAg hAL) (hst.cell hO hOR hOg hOL) hla.c hla.f hLR hlg ae ae (bs ++ au n ++ (xs.take j).flatMap e ++ e x) (fun W2 hb2 => ?_)).mono ?_
 ·have hst2:=hst.trans (eA.of_below (L:=L) (R:=R) (g:=g1) hb2);obtain ⟨p1,p2,p3,p4,p5⟩:=Gw R g L w xs hok hst2 j x hx
  refine (Dh R g1 cap1 _ x.1 (16384 - (cR (xs.take j) : Int)) x.2.1 x.2.2.1.1 x.2.2.1.2.1 x.2.2.1.2.2 ta tn tc sg x.2.2.2 W2 (hwr.later hb2) ae htn hR0 hg1 (hkW.later hb2 hkW.pos) (hsgW.later hb2) (fun b off c hb' => ⟨(hsn b off c hb').1,hst.ne (hsl b off c hb') (hsn b off c hb').2.1⟩) hp8 ae p1 p2 p3 p4 p5 hchk).mono ?_
  rintro e' w' ⟨fa,fc,he',g',cap',hw',hs'⟩;refine ⟨fa,fc,he',g',cap',?_,hs'⟩;rw [henc];exact hw'
 ·rintro e' w' ⟨fa,fc,he',hlc,hlf,g',cap',hw',hk',hm'⟩;refine ⟨(x.1,x.2.1,(fa,x.2.2.1.2.1,fc)),he',trivial,g',cap',hw',⟨hk',hm'⟩,⟨?_,hlf⟩⟩;rw [hlc]
  show some (Value.int IntKind.i64 (16384 - (cR (xs.take j) : Int) - (x.2.2.1.2.1 : Int))) = some (Value.int IntKind.i64 (16384 - (cR (xs.take (j + 1)) : Int)))
  rw [tu hx]
  congr 2
  omega
theorem Kq (h : Wr w R g cap bs) (hb : bs.length + 500000000000 ≤ 1099511627776) (hn : n ≤ 1000) (hR0 : R ≠ 0) (hg0 : g ≠ 0) (hk : aT w) (hL0 : L ≠ 0) (hA : w.cell? ⟨A,0,none⟩ = some (cW R)) (hAR : A ≠ R) (hAg : A ≠ g) (hAL : A ≠ L) (hO : w.cell? ⟨O,0,none⟩ = some (.slice ta tn tc)) (hOR : O ≠ R) (hOg : O ≠ g) (hOL : O ≠ L) (htn : tn ≤ 100000) (hsg : cf w ta tn sg) (hsn : ∀ b off c,ta = some ⟨b,off,c⟩ → b ≠ R ∧ b ≠ g ∧ b ≠ L) (hsl : ∀ b off c,ta = some ⟨b,off,c⟩ → b < w.heap.size) (hp8 : ∀ (t : Nat) p r,sg[t]? = some (p,r) → p.size ≤ 8) (hLR : L ≠ R) (hLg : L ≠ g) (hok : ∀ (j : Nat) x,xs[j]? = some x → IW w R g L x) (hl : xs.length = n) (ha : Option Addr) (hc : Nat) (hL : LAt w L 16384) (hmem : kK w ha n xs) (hne : ∀ b off c,ha = some ⟨b,off,c⟩ → b ≠ R ∧ b ≠ g ∧ b ≠ L) (hx : bI (fQ sg) 128 xs = 0) :
  Calls Tryz.prog 141 #[cW R,.slice ha n hc,.int .i64 128,.func (.func 142) #[] #[.pointer (some ⟨A,0,none⟩),.pointer (some ⟨O,0,none⟩),.pointer (some ⟨L,0,none⟩)]] w fun e w' => ∃ (aa : Option Addr) (ac : Nat),e = .returned (.slice aa n ac) ∧ ∃ g' cap',Wr w' R g' cap' (bs ++ (au n ++ xs.flatMap cT)) ∧ eA R L g g' w w':=by
 unfold bI at hx
 split at hx
 ·cases hx
 rename_i hm
 have hall:=bo (fQ sg) xs [] hx
 have hall' : ∀ (i : Nat) y,xs[i]? = some y → fQ sg (xs.take i) y = 0:=fun i y hi => hall i y hi
 refine (uK R g cap bs ha n hc 128 142 _ w xs cT (fun _ _ => True) 400000 L (fun j => 16384 - (cR (xs.take j) : Int)) (by simpa [cR] using hL) hLR hLg h ae ae hmem hne (fun _ _ => rfl) (fun j x hj => kr (hall' j x hj)) ae ae
  (fun j x hj => uW R g cap bs n A O L ta tn tc sg w xs h hb hn hR0 hg0 hk hL0 hA hAR hAg hAL hO hOR hOg hOL htn hsg hsn hsl hp8 hLR hLg hok hl cT (j + 1) (fun _ _ _ _ => rfl) (fun i y hi _ => hall' i y hi) j x hj ae)).mono ?_
 rintro e w' ⟨aa,ac,ys,he,hyl,hys,hrow,g',cap',hab,hw',hs',_⟩;exact ⟨aa,ac,he,g',cap',uq,hs'⟩
theorem MK (h : Wr w R g cap bs) (hb : bs.length + 500000000000 ≤ 1099511627776) (hn : n ≤ 1000) (hR0 : R ≠ 0) (hg0 : g ≠ 0) (hk : aT w) (hL0 : L ≠ 0) (hA : w.cell? ⟨A,0,none⟩ = some (cW R)) (hAR : A ≠ R) (hAg : A ≠ g) (hAL : A ≠ L) (hO : w.cell? ⟨O,0,none⟩ = some (.slice ta tn tc)) (hOR : O ≠ R) (hOg : O ≠ g) (hOL : O ≠ L) (htn : tn ≤ 100000) (hsg : cf w ta tn sg) (hsn : ∀ b off c,ta = some ⟨b,off,c⟩ → b ≠ R ∧ b ≠ g ∧ b ≠ L) (hsl : ∀ b off c,ta = some ⟨b,off,c⟩ → b < w.heap.size) (hp8 : ∀ (t : Nat) p r,sg[t]? = some (p,r) → p.size ≤ 8) (hLR : L ≠ R) (hLg : L ≠ g) (hok : ∀ (j : Nat) x,xs[j]? = some x → IW w R g L x) (hl : xs.length = n) (ha : Option Addr) (hc : Nat) (hL : LAt w L 16384) (hmem : kK w ha n xs) (hne : ∀ b off c,ha = some ⟨b,off,c⟩ → b ≠ R ∧ b ≠ g ∧ b ≠ L) (hx : bI (fQ sg) 128 xs ≠ 0) :
  Calls Tryz.prog 141 #[cW R,.slice ha n hc,.int .i64 128,.func (.func 142) #[] #[.pointer (some ⟨A,0,none⟩),.pointer (some ⟨O,0,none⟩),.pointer (some ⟨L,0,none⟩)]] w (Cu R L g (bI (fQ sg) 128 xs) w):=by
 unfold bI at hx ⊢
 by_cases hm : (128 : Int) < xs.length
 ·rw [if_pos hm];refine (mJ R g cap bs ha n hc 128 _ w h ae).mono ?_;rintro e w' ⟨hp,hk'⟩
  exact ⟨hp,hk'.mono (fun k hk => ae)⟩
 rw [if_neg hm] at hx ⊢;obtain ⟨k,x,h1,h2,h3,h4⟩:=dG (fQ sg) xs [] hx;have hall:=bo (fQ sg) (xs.take k) [] h2
 have hall' : ∀ (i : Nat) y,xs[i]? = some y → i < k → fQ sg (xs.take i) y = 0:=fun i y hi hik => by
  have hh:=hall i y yX
  have e : (xs.take k).take i = xs.take i:=by rw [List.take_take]; congr 1; omega
  simp only [List.nil_append,e] at hh
  exact hh
 rw [h4]
 simp only [List.nil_append] at h3 ⊢
 obtain ⟨E,hE⟩ : ∃ E : FuM → List Int,E = fun y => if (cT y).length ≤ 400000 then cT y else []:=⟨_,rfl⟩
 have hEl : ∀ y,(E y).length ≤ 400000:=fun y => by
  rw [hE]
  show (if (cT y).length ≤ 400000 then cT y else []).length ≤ 400000
  split
  ·assumption
  ·simp
 have hEe : ∀ (i : Nat) z,xs[i]? = some z → i < k → E z = cT z:=fun i z hi hik => by
  rw [hE];exact if_pos (kr (hall' i z hi hik))
 refine xh R g cap bs ha n hc 128 142 _ w xs E (fun _ _ => True) 400000 L (fun j => 16384 - (cR (xs.take j) : Int)) (by simpa [cR] using hL) hLR hLg h ae ae hmem hne (fun _ _ => rfl) (fun j y hj => hEl y) ae ae k x _ h1
  (fun j y hj hjk => uW R g cap bs n A O L ta tn tc sg w xs h hb hn hR0 hg0 hk hL0 hA hAR hAg hAL hO hOR hOg hOL htn hsg hsn hsl hp8 hLR hLg hok hl E k hEe hall' j y hj hjk) ?_
 intro ys W g1 cap1 aa ac hyl hys hst hla hlg hwr hrow hab;have hlt:=aF h1;have hu:=aC (n : Int)
 have hbb : (bs ++ au n ++ (xs.take k).flatMap E).length ≤ bs.length + 10 + 1000 * 400000:=by
  have hf:=dw E 400000 (xs.take k) (fun i y _ => hEl y)
  rw [List.length_take] at hf;have e1 : min k xs.length = k:=ae;rw [e1] at hf;rw [List.length_append,List.length_append];have : k * 400000 ≤ 1000 * 400000:=Nat.mul_le_mul_right _ ae;omega
 have hg1 : g1 ≠ 0:=Ne.symm (hst.ne rY (Ne.symm hg0));have hkW : aT W:=hk.kept hst.k aL
 have hsgW:=hsg.kept hst.k (fun b off c hb' => by have:=hsn b off c hb'; simp; omega)
 refine CL R g1 cap1 _ x.1 x.2.1 x.2.2.1.1 x.2.2.1.2.1 x.2.2.1.2.2 aa k ac A O L ta tn tc (16384 - (cR (xs.take k) : Int)) W hwr (hst.cell hA hAR hAg hAL) (hst.cell hO hOR hOg hOL) hla.c _ (fun W2 hb2 => ?_)
 have hst2:=hst.trans (eA.of_below (L:=L) (R:=R) (g:=g1) hb2);obtain ⟨p1,p2,p3,p4,p5⟩:=Gw R g L w xs hok hst2 k x h1
 exact DT R g1 cap1 _ x.1 (16384 - (cR (xs.take k) : Int)) x.2.1 x.2.2.1.1 x.2.2.1.2.1 x.2.2.1.2.2 ta tn tc sg x.2.2.2 W2 (hwr.later hb2) ae htn hR0 hg1 (hkW.later hb2 hkW.pos) (hsgW.later hb2) (fun b off c hb' => ⟨(hsn b off c hb').1,hst.ne (hsl b off c hb') (hsn b off c hb').2.1⟩) hp8 ae p1 p2 p3 p4 p5 (hok k x h1).r0 (hok k x h1).r1 ae h3
end
end Go.Proofs.YtheefojaplnnoaaGreatDoor
